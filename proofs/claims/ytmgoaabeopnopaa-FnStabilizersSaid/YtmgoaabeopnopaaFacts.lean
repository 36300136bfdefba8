/- Closed facts on the translated program, each proved once for all rows of this seat. -/
import Derived.Test.YtmgoaabeopnopaaRows
import Derived.ProofKit
import Derived.JoinedOf
namespace Go.Proofs.Ytmgoaabeopnopaa
namespace Facts
def c (n : Nat) : Char := Char.ofNat n
def w0 : List Char := [c 104, c 97, c 114, c 110, c 101, c 115, c 115]
def w1 : List Char := [c 101, c 55, c 48, c 52, c 51, c 50, c 48, c 48, c 50, c 52, c 99, c 100, c 48, c 56, c 97, c 98, c 55, c 48, c 57, c 55, c 54, c 99, c 97, c 56, c 50, c 100, c 55, c 54, c 99, c 52, c 97, c 53, c 98, c 51, c 49, c 49, c 52, c 51, c 52, c 51,
  c 100, c 53, c 51, c 49, c 101, c 57, c 50, c 99, c 98, c 51, c 98, c 100, c 57, c 102, c 48, c 54, c 50, c 97, c 49, c 49, c 54, c 55, c 101, c 53]
def w2 : List Char := [c 99, c 117, c 116]
def w3 : List Char := [c 97, c 116, c 32, c 108, c 111, c 111, c 112, c 46, c 101, c 120, c 97, c 109, c 112, c 108, c 101, c 47, c 103, c 48, c 49, c 49, c 48, c 56, c 47, c 108, c 97, c 119, c 115, c 46, c 70, c 110, c 69, c 120, c 97, c 99, c 116, c 81, c 117, c 111, c 116, c 105,
  c 101, c 110, c 116, c 66, c 121, c 32, c 108, c 111, c 111, c 112, c 46, c 101, c 120, c 97, c 109, c 112, c 108, c 101, c 47, c 103, c 48, c 49, c 49, c 48, c 56, c 47, c 108, c 97, c 119, c 115, c 46, c 70, c 110, c 69, c 120, c 97, c 99, c 116, c 67, c 111,
  c 118, c 101, c 114, c 105, c 110, c 103, c 79, c 102, c 32, c 108, c 111, c 111, c 112, c 46, c 101, c 120, c 97, c 109, c 112, c 108, c 101, c 47, c 103, c 48, c 49, c 49, c 48, c 56, c 47, c 108, c 97, c 119, c 115, c 46, c 70, c 110, c 69, c 120, c 97, c 99,
  c 116, c 67, c 111, c 117, c 110, c 116, c 67, c 111, c 118, c 101, c 114, c 105, c 110, c 103, c 115, c 32, c 108, c 111, c 111, c 112, c 46, c 101, c 120, c 97, c 109, c 112, c 108, c 101, c 47, c 103, c 48, c 49, c 49, c 48, c 56, c 47, c 108, c 97, c 119, c 115,
  c 46, c 70, c 110, c 69, c 120, c 97, c 99, c 116, c 73, c 115, c 67, c 111, c 118, c 101, c 114, c 105, c 110, c 103, c 32, c 108, c 111, c 111, c 112, c 46, c 101, c 120, c 97, c 109, c 112, c 108, c 101, c 47, c 103, c 48, c 49, c 49, c 48, c 56, c 47, c 108,
  c 97, c 119, c 115, c 46, c 70, c 110, c 69, c 120, c 97, c 99, c 116, c 70, c 105, c 98, c 114, c 101, c 79, c 102, c 32, c 108, c 111, c 111, c 112, c 46, c 101, c 120, c 97, c 109, c 112, c 108, c 101, c 47, c 103, c 48, c 49, c 49, c 48, c 56, c 47, c 108,
  c 97, c 119, c 115, c 46, c 70, c 110, c 69, c 120, c 97, c 99, c 116, c 68, c 101, c 99, c 107, c 77, c 111, c 118, c 101, c 115, c 32, c 108, c 111, c 111, c 112, c 46, c 101, c 120, c 97, c 109, c 112, c 108, c 101, c 47, c 103, c 48, c 49, c 49, c 48, c 56,
  c 47, c 108, c 97, c 119, c 115, c 46, c 70, c 110, c 69, c 120, c 97, c 99, c 116, c 73, c 115, c 78, c 111, c 114, c 109, c 97, c 108, c 67, c 111, c 118, c 101, c 114, c 105, c 110, c 103, c 32, c 108, c 111, c 111, c 112, c 46, c 101, c 120, c 97, c 109, c 112,
  c 108, c 101, c 47, c 103, c 48, c 49, c 49, c 48, c 56, c 47, c 108, c 97, c 119, c 115, c 46, c 70, c 110, c 69, c 120, c 97, c 99, c 116, c 68, c 111, c 117, c 98, c 108, c 101, c 67, c 111, c 118, c 101, c 114, c 32, c 108, c 111, c 111, c 112, c 46, c 101,
  c 120, c 97, c 109, c 112, c 108, c 101, c 47, c 103, c 48, c 49, c 49, c 48, c 56, c 47, c 108, c 97, c 119, c 115, c 46, c 70, c 110, c 69, c 120, c 97, c 99, c 116, c 70, c 97, c 99, c 101, c 77, c 97, c 112, c 32, c 108, c 111, c 111, c 112, c 46, c 101,
  c 120, c 97, c 109, c 112, c 108, c 101, c 47, c 103, c 48, c 49, c 49, c 48, c 56, c 47, c 108, c 97, c 119, c 115, c 46, c 70, c 110, c 68, c 111, c 117, c 98, c 108, c 101, c 67, c 111, c 118, c 101, c 114, c 115, c 32, c 108, c 111, c 111, c 112, c 46, c 101,
  c 120, c 97, c 109, c 112, c 108, c 101, c 47, c 103, c 48, c 49, c 49, c 48, c 56, c 47, c 108, c 97, c 119, c 115, c 46, c 70, c 110, c 65, c 117, c 116, c 111, c 109, c 111, c 114, c 112, c 104, c 105, c 115, c 109, c 115, c 32, c 108, c 111, c 111, c 112, c 46,
  c 101, c 120, c 97, c 109, c 112, c 108, c 101, c 47, c 103, c 48, c 49, c 49, c 48, c 56, c 47, c 108, c 97, c 119, c 115, c 46, c 70, c 110, c 83, c 116, c 97, c 98, c 105, c 108, c 105, c 122, c 101, c 114, c 115, c 32, c 108, c 111, c 111, c 112, c 46, c 101,
  c 120, c 97, c 109, c 112, c 108, c 101, c 47, c 103, c 48, c 49, c 49, c 48, c 56, c 47, c 108, c 97, c 119, c 115, c 46, c 70, c 110, c 83, c 121, c 109, c 109, c 101, c 116, c 114, c 121, c 84, c 121, c 112, c 101, c 115]
def sp : Char := c 32
theorem words_append (a b : List Char) (ha : a.all (fun x => x != sp) = true) : wordsSigns (a ++ sp :: b) = a :: wordsSigns b := by
  induction a with
  | nil => rfl
  | cons x r ih =>
    simp only [List.all_cons, Bool.and_eq_true] at ha
    have hx : x ≠ sp := by simpa using ha.1
    have h := ih ha.2
    rw [List.cons_append, wordsSigns, h]
    exact hx
set_option maxRecDepth 100000 in
theorem init_eq : Try.prog.initOrder = String.ofList (w0 ++ sp :: (w1 ++ sp :: (w2 ++ sp :: w3))) := by kernel_rfl
theorem init_words : wordsSigns Try.prog.initOrder.toList = w0 :: w1 :: w2 :: wordsSigns w3 := by
  rw [init_eq, String.toList_ofList, words_append _ _ (by kernel_rfl), words_append _ _ (by kernel_rfl), words_append _ _ (by kernel_rfl)]
theorem eBehind (r : List (List Char)) : behindMainWord (w0 :: w1 :: w2 :: r) = w2 :: r := by kernel_rfl
theorem eStrip (r : List (List Char)) : stripLifts liftWords (w2 :: r) = ([], w2 :: r) := by kernel_rfl
theorem eGc : (w2 == "gc".toList) = false := by kernel_rfl
theorem eSpec : (w2 == "spec".toList) = false := by kernel_rfl
theorem eCarried : (w2 == "carried".toList) = false := by kernel_rfl
theorem eCut : (w2 == "cut".toList) = true := by kernel_rfl
theorem eDoor : Try.prog.doorFits [] = true := by kernel_rfl
theorem eLater : Try.prog.laysLater = false := by kernel_rfl
theorem eReflect : Try.prog.bearsReflect = false := by kernel_rfl
theorem eSome : (some w2 == some "cut".toList) = true := eCut
theorem mayEnter_of (P : Program) (ws : List (List Char)) (h : wordsSigns P.initOrder.toList = w0 :: w1 :: w2 :: ws) (h1 : P.doorFits [] = true) (h2 : P.laysLater = false) (h3 : P.bearsReflect = false) : P.mayEnter = true := by
  unfold Program.mayEnter
  rw [h, eBehind]
  simp only [eGc, eSpec, eCarried, eStrip, h1, h2, h3, List.head?_cons, eSome, List.contains_nil]
  rfl
theorem headLifts_of (P : Program) (ws : List (List Char)) (h : wordsSigns P.initOrder.toList = w0 :: w1 :: w2 :: ws) : P.headLifts = [] := by
  unfold Program.headLifts
  rw [h, eBehind]
  simp only [eStrip, List.head?_cons, eSome]
  rfl
theorem lifted_of (P : Program) (ws : List (List Char)) (h : wordsSigns P.initOrder.toList = w0 :: w1 :: w2 :: ws) : P.liftsFinal = false := by
  unfold Program.liftsFinal
  rw [h, headLifts_of P ws h, eBehind]
  have e : (some w2 == some "carried".toList) = false := eCarried
  simp only [List.head?_cons, e, List.contains_nil, Bool.false_and, Bool.or_false]
theorem make_of (P : Program) (ws : List (List Char)) (h : wordsSigns P.initOrder.toList = w0 :: w1 :: w2 :: ws) : P.make = some .cut := by
  unfold Program.make
  rw [h, eBehind]
  simp only [eGc, eSpec, eCut]
  rfl
theorem mayEnter : Try.prog.mayEnter = true := mayEnter_of _ _ init_words eDoor eLater eReflect
theorem lifted : Try.prog.liftsFinal = false := lifted_of _ _ init_words
theorem make : Try.prog.make = some .cut := make_of _ _ init_words
theorem laidOut : laidOutB Try.prog = true := by kernel_rfl
theorem rowed : mapsRowed Try.prog = true := by kernel_rfl
theorem heard : Try.prog.stopsHeard = true := by kernel_rfl
theorem plainKeys : Try.prog.plainKeys = false := by kernel_rfl
theorem stops : Try.prog.stops = [] := by kernel_rfl
theorem knobs : Try.prog.stopKnobs = [] := by kernel_rfl
/-- The closed facts of a row over this program, those on the program's head apart. -/
def restFacts (P : Program) (f : FuncId) (fn : Func) (s : ChangeSpec) (c : OpenClaim) : Bool :=
  c.wf (OpenSpec.ofChange s) && fn.params.all (P.readableRec ·) && namedTie P c.named s.vars && (c.stops == []) && (c.knobs == []) &&
  (c.inPlace == P.inPlace f) && (c.unfollowed == P.unfollowed f) && (c.recurses == P.recurses f) && (c.named == P.varsNamed f) &&
  (c.maps == (fn.params.toList ++ s.plain.varTypes P).any (P.mapsRec ·)) && (c.ifaces == (fn.params.toList ++ s.plain.varTypes P).any (P.ifacesRec ·)) && (c.mapsOut == P.mapsAmong fn.resultTypes.toList) &&
  (c.loops == (fn.params.toList ++ s.plain.varTypes P).any (P.loopsFrom ·)) && (c.wideKeys == (fn.params.toList ++ s.plain.varTypes P ++ fn.resultTypes.toList).any (P.wideKeysFrom ·)) &&
  s.vars.all (P.varReadable ·) && fn.resultTypes.all (fun t => P.readableRec t && decide (t < P.types.size)) && (c.ifacesOut == fn.resultTypes.toList.any (P.ifacesRec ·)) && (c.loopsOut == fn.resultTypes.toList.any (P.loopsFrom ·)) && (c.plainKeys == false) && c.shortTexts.isNone && (c.lifted == false) && (some Make.cut == some c.make) && (c.domain.isEmpty && c.kinds == []) && (c.pinned == c.pinnedBy) &&
  (c.veiled == (fn.params.toList ++ s.plain.varTypes P ++ fn.resultTypes.toList).any (P.veiledRec ·)) && c.veiledFits P fn.params.toList (fn.params.toList ++ s.plain.varTypes P ++ fn.resultTypes.toList)
theorem joined_of (P : Program) (h1 : laidOutB P = true) (h2 : mapsRowed P = true) (h3 : P.stops = []) (h4 : P.stopKnobs = []) (h5 : P.stopsHeard = true) (h6 : P.mayEnter = true) (h7 : P.liftsFinal = false) (h8 : P.make = some .cut) (h9 : P.plainKeys = false)
    (f : FuncId) (fn : Func) (s : ChangeSpec) (c : OpenClaim) (h : restFacts P f fn s c = true) : joinedFacts P f fn s c = true := by
  unfold restFacts at h
  simp only [Bool.and_eq_true] at h
  obtain ⟨⟨⟨⟨⟨⟨⟨⟨⟨⟨⟨⟨⟨⟨⟨⟨⟨⟨⟨⟨⟨⟨⟨⟨⟨a1, a2⟩, a3⟩, a4⟩, a5⟩, a6⟩, a7⟩, a8⟩, a9⟩, a10⟩, a11⟩, a12⟩, a13⟩, a14⟩, a15⟩, a16⟩, a17⟩, a18⟩, a19⟩, a20⟩, a21⟩, a22⟩, a23⟩, a24⟩, a25⟩, a26⟩ := h
  unfold joinedFacts
  rw [h1, h2, h3, h4, h5, h6, h7, h8, h9, a1, a2, a3, a4, a5, a6, a7, a8, a9, a10, a11, a12, a13, a14, a15, a16, a17, a18, a19, a20, a21, a22, a23.1, if_pos rfl, a23.2, a24, a25, a26]
  rfl
theorem joined (f : FuncId) (fn : Func) (s : ChangeSpec) (c : OpenClaim) (h : restFacts Try.prog f fn s c = true) : joinedFacts Try.prog f fn s c = true :=
  joined_of Try.prog laidOut rowed stops knobs heard mayEnter lifted make plainKeys f fn s c h
theorem own : ownKnob Try.prog.godebug = none := by kernel_rfl
end Facts
end Go.Proofs.Ytmgoaabeopnopaa
