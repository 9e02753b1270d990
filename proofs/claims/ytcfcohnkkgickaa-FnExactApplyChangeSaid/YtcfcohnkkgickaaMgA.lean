/-
  Texts of one base, merged: Mk, Plain, L1In, Keep, RvSpec, RwLaw, RwsOwn, ArSpec, EqRows, FdSpec, RwsApp, BkPlain, BkLaw, Rep, RwRep, MkRows, Inv, BkOwn, TbRep.
-/
import Derived.Test.YtcfcohnkkgickaaRows
import Derived.WalkKit
import Derived.ProofKit
import Derived.Lib.Small
import Derived.Lib.ItoaMem
import Derived.Lib.ItoaNum
import Derived.Lib.ItoaLen
import Derived.Lib.IndexMore
import Derived.WalkSpells
import Derived.WalkLawsBesides
import Derived.Below
import Derived.Deep.QuietTactic
import Derived.Deep.RegionHeld3
import Derived.Deep.DeepCutAuto
import Derived.IntWalk
import Derived.Lib.Hide
import Derived.OwnWalk
import Derived.Laws.OwnMore
namespace Go.Proofs.Ytcfcohnkkgickaa.MkF
open Go.ChangeShapes Go.WideShapes Go.ChangeAt Go.RowKit

def chars (l : List Nat) : List Char := l.map Char.ofNat
theorem words_cons (rest : List Char) : ∀ w : List Char, (∀ c ∈ w, c ≠ Char.ofNat 32) → wordsSigns (w ++ Char.ofNat 32 :: rest) = w :: wordsSigns rest
  | [], _ => rfl
  | c :: w, h => by
    have ih := words_cons rest w (fun x hx => h x (by simp [hx]))
    have hc : c ≠ Char.ofNat 32 := h c (by simp)
    rw [List.cons_append, wordsSigns, ih]
    exact hc
def wordA : List Nat := [104, 97, 114, 110, 101, 115, 115]
def wordB : List Nat := [99, 54, 98, 55, 99, 100, 53, 98, 56, 48, 53, 102, 97, 52, 49, 101, 55, 55, 100, 97, 49, 97, 54, 98, 97, 98, 57, 52, 50, 50, 51, 97, 52, 101, 52, 57, 56, 49, 57, 97, 99, 57, 48, 101, 48, 102, 50, 52, 57, 49, 50, 53, 52, 52, 100, 48, 49, 49, 102, 101, 102, 57, 56, 57]
def wordC : List Nat := [99, 117, 116]
set_option maxRecDepth 100000 in
set_option maxHeartbeats 4000000 in
def wordR : List Nat := [97, 116, 32, 108, 111, 111, 112, 46, 101, 120, 97, 109, 112, 108, 101, 47, 103, 48, 49, 57, 50, 55, 47, 108, 97, 119, 115, 46, 70, 110, 69, 120, 97, 99, 116, 65, 112, 112, 108, 121, 67, 104, 97, 110, 103, 101, 32, 108, 111, 111, 112, 46, 101, 120, 97, 109, 112, 108, 101, 47, 103, 48, 49, 57, 50, 55, 47, 108, 97, 119, 115, 46, 70, 110, 69, 120, 97, 99, 116, 65, 112, 112, 108, 121, 67, 104, 97, 110, 103, 101, 115, 32, 108, 111, 111, 112, 46, 101, 120, 97, 109, 112, 108, 101, 47, 103, 48, 49, 57, 50, 55, 47, 108, 97, 119, 115, 46, 70, 110, 72, 105, 115, 116, 111, 103, 114, 97, 109, 115, 32, 108, 111, 111, 112, 46, 101, 120, 97, 109, 112, 108, 101, 47, 103, 48, 49, 57, 50, 55, 47, 108, 97, 119, 115, 46, 70, 110, 69, 120, 97, 99, 116, 83, 117, 109, 109, 97, 114, 105, 122, 101, 32, 108, 111, 111, 112, 46, 101, 120, 97, 109, 112, 108, 101, 47, 103, 48, 49, 57, 50, 55, 47, 108, 97, 119, 115, 46, 70, 110, 69, 120, 97, 99, 116, 73, 115, 83, 117, 109, 109, 97, 114, 121, 32, 108, 111, 111, 112, 46, 101, 120, 97, 109, 112, 108, 101, 47, 103, 48, 49, 57, 50, 55, 47, 108, 97, 119, 115, 46, 70, 110, 69, 120, 97, 99, 116, 86, 97, 108, 117, 101, 115, 73, 110, 32, 108, 111, 111, 112, 46, 101, 120, 97, 109, 112, 108, 101, 47, 103, 48, 49, 57, 50, 55, 47, 108, 97, 119, 115, 46, 70, 110, 69, 120, 97, 99, 116, 77, 101, 114, 103, 101, 83, 117, 109, 109, 97, 114, 105, 101, 115, 32, 108, 111, 111, 112, 46, 101, 120, 97, 109, 112, 108, 101, 47, 103, 48, 49, 57, 50, 55, 47, 108, 97, 119, 115, 46, 70, 110, 69, 120, 97, 99, 116, 83, 117, 109, 109, 97, 114, 105, 101, 115, 79, 102, 32, 108, 111, 111, 112, 46, 101, 120, 97, 109, 112, 108, 101, 47, 103, 48, 49, 57, 50, 55, 47, 108, 97, 119, 115, 46, 70, 110, 69, 120, 97, 99, 116, 84, 111, 116, 97, 108, 83, 117, 109, 109, 97, 114, 121, 32, 108, 111, 111, 112, 46, 101, 120, 97, 109, 112, 108, 101, 47, 103, 48, 49, 57, 50, 55, 47, 108, 97, 119, 115, 46, 70, 110, 69, 120, 97, 99, 116, 69, 113, 117, 97, 108, 83, 117, 109, 109, 97, 114, 105, 101, 115]
theorem init_ofList : Try.prog.initOrder = String.ofList (chars wordA ++ Char.ofNat 32 :: (chars wordB ++ Char.ofNat 32 :: (chars wordC ++ Char.ofNat 32 :: chars wordR))) := by kernel_rfl
theorem init_words : ∃ R, wordsSigns Try.prog.initOrder.toList = chars wordA :: chars wordB :: chars wordC :: R := by
  refine ⟨wordsSigns (chars wordR), ?_⟩
  rw [init_ofList, String.toList_ofList, words_cons _ _ (of_decide_eq_true (by kernel_rfl)), words_cons _ _ (of_decide_eq_true (by kernel_rfl)), words_cons _ _ (of_decide_eq_true (by kernel_rfl))]
theorem bm (R : List (List Char)) : behindMainWord (chars wordA :: chars wordB :: chars wordC :: R) = chars wordC :: R := by
  unfold behindMainWord
  kernel_rfl
theorem w_gc : (chars wordC == "gc".toList) = false := by kernel_rfl
theorem w_spec : (chars wordC == "spec".toList) = false := by kernel_rfl
theorem w_cut : (chars wordC == "cut".toList) = true := by kernel_rfl
theorem w_car : (chars wordC == "carried".toList) = false := by kernel_rfl
theorem w_some : (some (chars wordC) == some "cut".toList) = true := by kernel_rfl
theorem w_scar : (some (chars wordC) == some "carried".toList) = false := by kernel_rfl
theorem w_lifts (R : List (List Char)) : stripLifts liftWords (chars wordC :: R) = ([], chars wordC :: R) := by kernel_rfl
theorem gen_head {P : Program} {R : List (List Char)} (hR : wordsSigns P.initOrder.toList = chars wordA :: chars wordB :: chars wordC :: R) : P.headLifts = [] := by
  unfold Program.headLifts
  rw [hR, bm, w_lifts]
  simp only [List.head?_cons, w_some, if_true]
theorem gen_make {P : Program} {R : List (List Char)} (hR : wordsSigns P.initOrder.toList = chars wordA :: chars wordB :: chars wordC :: R) : P.make = some .cut := by
  unfold Program.make
  rw [hR, bm]
  simp only [w_gc, w_spec, w_cut, Bool.false_or, Bool.true_or, if_true, Bool.false_eq_true, if_false]
theorem gen_enter {P : Program} {R : List (List Char)} (hR : wordsSigns P.initOrder.toList = chars wordA :: chars wordB :: chars wordC :: R) (hl : P.laysLater = false) (hb : P.bearsReflect = false) (hd : P.doorFits [] = true) : P.mayEnter = true := by
  unfold Program.mayEnter
  rw [hR, bm]
  simp only [w_gc, w_spec, w_car, w_lifts, hl, hb, hd, w_some, List.head?_cons, Bool.false_or, Bool.false_and, Bool.true_and, Bool.not_false, Bool.or_true, Bool.and_true]
  rfl
theorem gen_lifts {P : Program} {R : List (List Char)} (hR : wordsSigns P.initOrder.toList = chars wordA :: chars wordB :: chars wordC :: R) : P.liftsFinal = false := by
  unfold Program.liftsFinal
  rw [hR, bm, gen_head hR]
  simp only [List.head?_cons, w_scar, Bool.false_and, Bool.false_or]
  rfl
theorem mk_make : Try.prog.make = some .cut := by
  obtain ⟨R, hR⟩ := init_words
  exact gen_make hR
theorem mk_lifts : Try.prog.liftsFinal = false := by
  obtain ⟨R, hR⟩ := init_words
  exact gen_lifts hR
theorem mk_enter : Try.prog.mayEnter = true := by
  obtain ⟨R, hR⟩ := init_words
  exact gen_enter hR (by kernel_rfl) (by kernel_rfl) (by kernel_rfl)
theorem and_b {a b : Bool} (h : a = true) (h' : b = true) : (a && b) = true := by rw [h, h']; rfl
theorem make_eq {P : Program} {c : OpenClaim} (h : P.make = some .cut) (hc : c.make = .cut) : (P.make == some c.make) = true := by rw [h, hc]; rfl
theorem lifts_eq {P : Program} {c : OpenClaim} (h : P.liftsFinal = false) (hc : c.lifted = false) : (c.lifted == P.liftsFinal) = true := by rw [h, hc]; rfl
theorem closed_of {P : Program} {f : FuncId} {fn : Func} {s : ChangeSpec} {c : OpenClaim}
    (h0 : c.wf (OpenSpec.ofChange s) = true)
    (h1 : laidOutB P = true)
    (h2 : mapsRowed P = true)
    (h3 : fn.params.all (P.readableRec ·) = true)
    (h4 : namedTie P c.named s.vars = true)
    (h5 : (c.stops == []) = true)
    (h6 : (P.stops == []) = true)
    (h7 : (c.knobs == []) = true)
    (h8 : (P.stopKnobs == []) = true)
    (h9 : (c.inPlace == P.inPlace f) = true)
    (h10 : (c.unfollowed == P.unfollowed f) = true)
    (h11 : (c.recurses == P.recurses f) = true)
    (h12 : (c.named == P.varsNamed f) = true)
    (h13 : (c.maps == (fn.params.toList ++ s.plain.varTypes P).any (P.mapsRec ·)) = true)
    (h14 : (c.ifaces == (fn.params.toList ++ s.plain.varTypes P).any (P.ifacesRec ·)) = true)
    (h15 : (c.mapsOut == P.mapsAmong fn.resultTypes.toList) = true)
    (h16 : (c.loops == (fn.params.toList ++ s.plain.varTypes P).any (P.loopsFrom ·)) = true)
    (h17 : (c.wideKeys == (fn.params.toList ++ s.plain.varTypes P ++ fn.resultTypes.toList).any (P.wideKeysFrom ·)) = true)
    (h18 : s.vars.all (P.varReadable ·) = true)
    (h19 : fn.resultTypes.all (fun t => P.readableRec t && decide (t < P.types.size)) = true)
    (h20 : (c.ifacesOut == fn.resultTypes.toList.any (P.ifacesRec ·)) = true)
    (h21 : (c.loopsOut == fn.resultTypes.toList.any (P.loopsFrom ·)) = true)
    (h22 : (c.plainKeys == P.plainKeys) = true)
    (h23 : c.shortTexts.isNone = true)
    (h24 : P.stopsHeard = true)
    (h25 : P.mayEnter = true)
    (h26 : (c.lifted == P.liftsFinal) = true)
    (h27 : (P.make == some c.make) = true)
    (h28 : (c.kinds == (if c.domain.isEmpty then [] else fn.params.toList.map fun t => match P.underlying t with | some (.int k) => some k | _ => none)) = true)
    (h29 : (c.pinned == c.pinnedBy) = true)
    (h30 : (c.veiled == (fn.params.toList ++ s.plain.varTypes P ++ fn.resultTypes.toList).any (P.veiledRec ·)) = true)
    (h31 : c.veiledFits P fn.params.toList (fn.params.toList ++ s.plain.varTypes P ++ fn.resultTypes.toList) = true) : joinedFacts P f fn s c = true := by
  unfold joinedFacts
  exact (and_b (and_b (and_b (and_b (and_b (and_b (and_b (and_b (and_b (and_b (and_b (and_b (and_b (and_b (and_b (and_b (and_b (and_b (and_b (and_b (and_b (and_b (and_b (and_b (and_b (and_b (and_b (and_b (and_b (and_b (and_b h0 h1) h2) h3) h4) h5) h6) h7) h8) h9) h10) h11) h12) h13) h14) h15) h16) h17) h18) h19) h20) h21) h22) h23) h24) h25) h26) h27) h28) h29) h30) h31)
end Go.Proofs.Ytcfcohnkkgickaa.MkF


/-! ### FrPlain -/
namespace Go.Proofs.Ytcfcohnkkgickaa.Num
open Go

theorem gcd_round (x y : Int) : Int.gcd y (x.tmod y) = Int.gcd x y := by
  unfold Int.gcd
  rw [Int.natAbs_tmod, Nat.gcd_comm, ← Nat.gcd_rec, Nat.gcd_comm]

theorem gcdN_round (x y : Nat) : Nat.gcd y (x % y) = Nat.gcd x y := by
  rw [Nat.gcd_comm, ← Nat.gcd_rec, Nat.gcd_comm]

theorem gcd_abs (n : Int) (d : Nat) : Nat.gcd n.natAbs d = Int.gcd n d := rfl

theorem gcd_pos {n d : Int} (h : d ≠ 0) : 1 ≤ Int.gcd n d := Int.gcd_pos_of_ne_zero_right n h

theorem gcd_le {n d : Int} (h : d ≠ 0) : Int.gcd n d ≤ d.natAbs := Nat.le_of_dvd (by omega) (Nat.gcd_dvd_right n.natAbs d.natAbs)

/-- The limits of a fraction; its limits and lowest terms. -/
def limB (n d : Int) : Bool := decide (-999999999 ≤ n ∧ n ≤ 999999999 ∧ 1 ≤ d ∧ d ≤ 10000)
def frB (n d : Int) : Bool := limB n d && decide (Int.gcd n d = 1)

theorem limB_of {n d : Int} (h : limB n d = true) : -999999999 ≤ n ∧ n ≤ 999999999 ∧ 1 ≤ d ∧ d ≤ 10000 := of_decide_eq_true h
theorem limB_yes {n d : Int} (h : -999999999 ≤ n ∧ n ≤ 999999999 ∧ 1 ≤ d ∧ d ≤ 10000) : limB n d = true := decide_eq_true h
theorem limB_no {n d : Int} (h : ¬ (-999999999 ≤ n ∧ n ≤ 999999999 ∧ 1 ≤ d ∧ d ≤ 10000)) : limB n d = false := decide_eq_false h
theorem frB_of {n d : Int} (h : frB n d = true) : (-999999999 ≤ n ∧ n ≤ 999999999 ∧ 1 ≤ d ∧ d ≤ 10000) ∧ Int.gcd n d = 1 := by
  unfold frB at h
  rw [Bool.and_eq_true] at h
  exact ⟨limB_of h.1, of_decide_eq_true h.2⟩
theorem frB_yes {n d : Int} (h : -999999999 ≤ n ∧ n ≤ 999999999 ∧ 1 ≤ d ∧ d ≤ 10000) (hg : Int.gcd n d = 1) : frB n d = true := by
  unfold frB; rw [limB_yes h, decide_eq_true hg]; rfl
theorem frB_no {n d : Int} (h : ¬ (-999999999 ≤ n ∧ n ≤ 999999999 ∧ 1 ≤ d ∧ d ≤ 10000)) : frB n d = false := by
  unfold frB; rw [limB_no h]; rfl
theorem frB_no2 {n d : Int} (hg : ¬ Int.gcd n d = 1) : frB n d = false := by
  unfold frB; rw [decide_eq_false hg]; simp

/-- The lowest terms of n / d, for d other than 0. -/
def rN (n d : Int) : Int := if d < 0 then -(n / (Int.gcd n d : Nat)) else n / (Int.gcd n d : Nat)
def rD (n d : Int) : Int := ((d.natAbs / Int.gcd n d : Nat) : Int)

theorem dvdN (n d : Int) : ((Int.gcd n d : Nat) : Int) ∣ n := Int.gcd_dvd_left n d
theorem dvdD (n d : Int) : ((Int.gcd n d : Nat) : Int) ∣ d := Int.gcd_dvd_right n d

theorem red_pos_N {n d : Int} (h : 0 < d) : n.tdiv (Int.gcd n d : Nat) = rN n d := by
  unfold rN; rw [if_neg (by omega)]; exact Int.tdiv_eq_ediv_of_dvd (dvdN n d)
theorem red_pos_D {n d : Int} (h : 0 < d) : d.tdiv (Int.gcd n d : Nat) = rD n d := by
  unfold rD
  rw [Int.tdiv_eq_ediv_of_dvd (dvdD n d)]
  obtain ⟨k, rfl⟩ := Int.eq_ofNat_of_zero_le (show 0 ≤ d by omega)
  simp
theorem red_neg_N {n d : Int} (h : d < 0) : n.tdiv (-((Int.gcd n d : Nat) : Int)) = rN n d := by
  unfold rN; rw [if_pos h, Int.tdiv_neg, Int.tdiv_eq_ediv_of_dvd (dvdN n d)]
theorem red_neg_D {n d : Int} (h : d < 0) : d.tdiv (-((Int.gcd n d : Nat) : Int)) = rD n d := by
  unfold rD
  rw [Int.tdiv_neg, Int.tdiv_eq_ediv_of_dvd (dvdD n d)]
  obtain ⟨k, hk⟩ : ∃ k : Nat, d = -(k : Int) := ⟨d.natAbs, by omega⟩
  have hd := dvdD n d
  have e : ((d.natAbs : Nat) : Int) = -d := by omega
  rw [Int.natCast_ediv, e, Int.neg_ediv_of_dvd hd]

theorem rD_pos {n d : Int} (h : d ≠ 0) : 1 ≤ rD n d := by
  unfold rD
  have := gcd_le (n := n) h
  have g := gcd_pos (n := n) h
  have : 1 ≤ d.natAbs / Int.gcd n d := (Nat.le_div_iff_mul_le (by omega)).2 (by omega)
  omega
theorem rD_le {n d : Int} : rD n d ≤ d.natAbs := by
  unfold rD
  have := Nat.div_le_self d.natAbs (Int.gcd n d)
  omega
theorem rN_abs {n d : Int} : (rN n d).natAbs = n.natAbs / Int.gcd n d := by
  have h := dvdN n d
  have e : (n / ((Int.gcd n d : Nat) : Int)).natAbs = n.natAbs / Int.gcd n d := by
    rw [Int.natAbs_ediv_of_dvd h]; simp
  unfold rN
  split
  · rw [Int.natAbs_neg, e]
  · exact e
theorem rN_bd {n d : Int} : (rN n d).natAbs ≤ n.natAbs := by
  rw [rN_abs]; exact Nat.div_le_self _ _

theorem red_gcd {n d : Int} (h : d ≠ 0) : Int.gcd (rN n d) (rD n d) = 1 := by
  unfold Int.gcd
  rw [rN_abs]
  unfold rD
  rw [Int.natAbs_natCast]
  exact Nat.gcd_div_gcd_div_gcd_of_pos_right (by omega)

theorem red_frB {n d : Int} (h : d ≠ 0) : frB (rN n d) (rD n d) = limB (rN n d) (rD n d) := by
  unfold frB; rw [decide_eq_true (red_gcd h), Bool.and_true]

theorem red_self {n d : Int} (h : 0 < d) (hg : Int.gcd n d = 1) : rN n d = n ∧ rD n d = d := by
  unfold rN rD
  rw [if_neg (by omega), hg]
  constructor
  · simp
  · simp; omega
theorem red_other {n d : Int} (h : 0 < d) (hg : ¬ Int.gcd n d = 1) : rD n d ≠ d := by
  unfold rD
  have g := gcd_pos (n := n) (d := d) (by omega)
  have := Nat.div_lt_self (n := d.natAbs) (k := Int.gcd n d) (by omega) (by omega)
  omega

theorem rN_neg {n d : Int} (h : d ≠ 0) : rN (-n) (-d) = rN n d := by
  unfold rN
  have e : Int.gcd (-n) (-d) = Int.gcd n d := by simp [Int.gcd]
  rw [e]
  rcases Int.lt_or_gt_of_ne h with h | h
  · rw [if_neg (by omega), if_pos h, Int.neg_ediv_of_dvd (dvdN n d)]
  · rw [if_pos (by omega), if_neg (by omega), Int.neg_ediv_of_dvd (dvdN n d), Int.neg_neg]
theorem rD_neg {n d : Int} : rD (-n) (-d) = rD n d := by
  unfold rD
  have e : Int.gcd (-n) (-d) = Int.gcd n d := by simp [Int.gcd]
  rw [e, Int.natAbs_neg]

/-- Whether both terms may be taken. -/
def termB (n d : Int) : Bool := decide (d ≠ 0 ∧ -1000000000000 ≤ n ∧ n ≤ 1000000000000 ∧ -1000000000000 ≤ d ∧ d ≤ 1000000000000)
end Go.Proofs.Ytcfcohnkkgickaa.Num

/-! ### FcPlain -/
namespace Go.Proofs.Ytcfcohnkkgickaa.Num
open Go

/-- The numerator of Whole. -/
def whN (n : Int) : Int := if -999999999 ≤ n ∧ n ≤ 999999999 then n else 0
theorem whN_yes {n : Int} (h1 : -999999999 ≤ n) (h2 : n ≤ 999999999) : whN n = n := by unfold whN; rw [if_pos ⟨h1, h2⟩]
theorem whN_no {n : Int} (h : n < -999999999 ∨ 999999999 < n) : whN n = 0 := by unfold whN; rw [if_neg (by omega)]

/-- The order of n / d and m / e; 0 where one is none. -/
def cmpA (n d m e : Int) : Int := if frB n d = true ∧ frB m e = true then Lib.compareInt (n * e) (m * d) else 0
theorem cmpA_no1 {n d m e : Int} (h : frB n d = false) : cmpA n d m e = 0 := by unfold cmpA; rw [if_neg (by rw [h]; simp)]
theorem cmpA_no2 {n d m e : Int} (h : frB m e = false) : cmpA n d m e = 0 := by unfold cmpA; rw [if_neg (by rw [h]; simp)]
theorem cmpA_yes {n d m e : Int} (h1 : frB n d = true) (h2 : frB m e = true) : cmpA n d m e = Lib.compareInt (n * e) (m * d) := by unfold cmpA; rw [if_pos ⟨h1, h2⟩]

theorem ci_lt {x y : Int} (h : x < y) : Lib.compareInt x y = -1 := by unfold Lib.compareInt; rw [if_pos h]
theorem ci_gt {x y : Int} (h : y < x) : Lib.compareInt x y = 1 := by unfold Lib.compareInt; rw [if_neg (by omega), if_pos h]
theorem ci_eq {x y : Int} (h : x = y) : Lib.compareInt x y = 0 := by unfold Lib.compareInt; rw [if_neg (by omega), if_neg (by omega)]

theorem mul_bd {n e : Int} (h1 : -999999999 ≤ n) (h2 : n ≤ 999999999) (h3 : 1 ≤ e) (h4 : e ≤ 10000) : -9999999990000 ≤ n * e ∧ n * e ≤ 9999999990000 := by
  have h := Nat.mul_le_mul (show n.natAbs ≤ 999999999 by omega) (show e.natAbs ≤ 10000 by omega)
  rw [← Int.natAbs_mul] at h
  omega
theorem mul_bd2 {d e : Int} (h1 : 1 ≤ d) (h2 : d ≤ 10000) (h3 : 1 ≤ e) (h4 : e ≤ 10000) : 1 ≤ d * e ∧ d * e ≤ 100000000 := by
  have h := Nat.mul_le_mul (show d.natAbs ≤ 10000 by omega) (show e.natAbs ≤ 10000 by omega)
  rw [← Int.natAbs_mul] at h
  have := Int.mul_pos (show 0 < d by omega) (show 0 < e by omega)
  omega

/-- Whether n / d less m / e is a fraction. -/
def subB (n d m e : Int) : Bool := frB n d && (frB m e && limB (rN (n * e - m * d) (d * e)) (rD (n * e - m * d) (d * e)))
end Go.Proofs.Ytcfcohnkkgickaa.Num

/-! ### IvPlain -/
namespace Go.Proofs.Ytcfcohnkkgickaa.Num
open Go

/-- Whether a / b to c / d is an interval. -/
def ivB (a b c d : Int) : Bool := frB a b && (frB c d && decide (cmpA a b c d ≤ 0))
theorem ivB_of {a b c d : Int} (h : ivB a b c d = true) : frB a b = true ∧ frB c d = true ∧ cmpA a b c d ≤ 0 := by
  unfold ivB at h
  rw [Bool.and_eq_true, Bool.and_eq_true] at h
  exact ⟨h.1, h.2.1, of_decide_eq_true h.2.2⟩
theorem ivB_yes {a b c d : Int} (h1 : frB a b = true) (h2 : frB c d = true) (h3 : cmpA a b c d ≤ 0) : ivB a b c d = true := by unfold ivB; rw [h1, h2, decide_eq_true h3]; rfl
theorem ivB_no1 {a b c d : Int} (h1 : frB a b = false) : ivB a b c d = false := by unfold ivB; rw [h1]; rfl
theorem ivB_no2 {a b c d : Int} (h2 : frB c d = false) : ivB a b c d = false := by unfold ivB; rw [h2]; simp
theorem ivB_no3 {a b c d : Int} (h3 : ¬ cmpA a b c d ≤ 0) : ivB a b c d = false := by unfold ivB; rw [decide_eq_false h3]; simp

/-- The value of a valid fraction is told by its order: cmpA is the order of the products. -/
theorem cmpA_le {a b c d : Int} (h1 : frB a b = true) (h2 : frB c d = true) : cmpA a b c d ≤ 0 ↔ a * d ≤ c * b := by
  rw [cmpA_yes h1 h2]
  rcases Int.lt_trichotomy (a * d) (c * b) with h | h | h
  · rw [ci_lt h]; omega
  · rw [ci_eq h]; omega
  · rw [ci_gt h]; omega
theorem cmpA_flip (a b c d : Int) : cmpA c d a b = -cmpA a b c d := by
  unfold cmpA
  by_cases h : frB a b = true ∧ frB c d = true
  · rw [if_pos h, if_pos ⟨h.2, h.1⟩]
    rcases Int.lt_trichotomy (a * d) (c * b) with h | h | h
    · rw [ci_lt h, ci_gt h]; rfl
    · rw [ci_eq h, ci_eq h.symm]; rfl
    · rw [ci_gt h, ci_lt h]
  · rw [if_neg h, if_neg (fun k => h ⟨k.2, k.1⟩)]; rfl
theorem cmpA_bd (a b c d : Int) : -1 ≤ cmpA a b c d ∧ cmpA a b c d ≤ 1 := by
  unfold cmpA
  split
  · unfold Lib.compareInt; split
    · omega
    · split <;> omega
  · omega

/-- Two valid fractions of equal order are the same. -/
theorem frac_ext {a b c d : Int} (h1 : frB a b = true) (h2 : frB c d = true) (h : a * d = c * b) : a = c ∧ b = d := by
  obtain ⟨⟨_, _, b1, _⟩, g1⟩ := frB_of h1
  obtain ⟨⟨_, _, d1, _⟩, g2⟩ := frB_of h2
  have hb : b.natAbs ∣ d.natAbs := by
    have h0 : b.natAbs ∣ a.natAbs * d.natAbs := by rw [← Int.natAbs_mul, h, Int.natAbs_mul]; exact Nat.dvd_mul_left _ _
    exact Nat.Coprime.dvd_of_dvd_mul_left (show Nat.Coprime b.natAbs a.natAbs by unfold Nat.Coprime; rw [Nat.gcd_comm]; exact g1) h0
  have hd : d.natAbs ∣ b.natAbs := by
    have h0 : d.natAbs ∣ c.natAbs * b.natAbs := by rw [← Int.natAbs_mul, ← h, Int.natAbs_mul]; exact Nat.dvd_mul_left _ _
    exact Nat.Coprime.dvd_of_dvd_mul_left (show Nat.Coprime d.natAbs c.natAbs by unfold Nat.Coprime; rw [Nat.gcd_comm]; exact g2) h0
  have e : b = d := by
    have := Nat.dvd_antisymm hb hd
    omega
  refine ⟨?_, e⟩
  rw [e] at h
  exact Int.eq_of_mul_eq_mul_right (by omega) h

def exB (a b c d : Int) : Bool := ivB a b c d && (decide (a = c) && decide (b = d))
def coB (a b c d n m : Int) : Bool := ivB a b c d && (frB n m && (decide (cmpA a b n m ≤ 0) && decide (cmpA n m c d ≤ 0)))
def liB (a b c d e f g h : Int) : Bool := ivB a b c d && (ivB e f g h && (decide (cmpA e f a b ≤ 0) && decide (cmpA c d g h ≤ 0)))
def civ (a b c d e f g h : Int) : Int := if ivB a b c d = true ∧ ivB e f g h = true then (if cmpA c d e f < 0 then -1 else if cmpA g h a b < 0 then 1 else 0) else 0
end Go.Proofs.Ytcfcohnkkgickaa.Num

/-! ### IvMore -/
namespace Go.Proofs.Ytcfcohnkkgickaa.Num
open Go

theorem cmpA_trans {a b c d e f : Int} (h1 : frB a b = true) (h2 : frB c d = true) (h3 : frB e f = true) (p : cmpA a b c d ≤ 0) (q : cmpA c d e f ≤ 0) : cmpA a b e f ≤ 0 := by
  rw [cmpA_le h1 h2] at p
  rw [cmpA_le h2 h3] at q
  rw [cmpA_le h1 h3]
  obtain ⟨⟨_, _, b1, _⟩, _⟩ := frB_of h1
  obtain ⟨⟨_, _, d1, _⟩, _⟩ := frB_of h2
  obtain ⟨⟨_, _, f1, _⟩, _⟩ := frB_of h3
  have e1 : a * d * f ≤ c * b * f := Int.mul_le_mul_of_nonneg_right p (by omega)
  have e2 : c * f * b ≤ e * d * b := Int.mul_le_mul_of_nonneg_right q (by omega)
  have e3 : a * f * d ≤ e * b * d := by
    have r1 : a * f * d = a * d * f := by rw [Int.mul_assoc, Int.mul_comm f d, ← Int.mul_assoc]
    have r2 : c * b * f = c * f * b := by rw [Int.mul_assoc, Int.mul_comm b f, ← Int.mul_assoc]
    have r3 : e * d * b = e * b * d := by rw [Int.mul_assoc, Int.mul_comm d b, ← Int.mul_assoc]
    omega
  exact Int.le_of_mul_le_mul_right e3 (by omega)

theorem cmpA_self (a b : Int) : cmpA a b a b = 0 := by have := cmpA_flip a b a b; omega
theorem ivB_one (n m : Int) : ivB n m n m = frB n m := by unfold ivB; rw [cmpA_self]; cases frB n m <;> rfl

/-- Contains is LiesWithin of a single value. -/
theorem liB_one (a b c d n m : Int) : liB n m n m a b c d = coB a b c d n m := by
  unfold liB coB
  rw [ivB_one]
  cases frB n m <;> cases ivB a b c d <;> rfl

/-- Equal order, equal fractions: where neither is above the other, either may be taken. -/
theorem cmpA_same {a b c d : Int} (h1 : frB a b = true) (h2 : frB c d = true) (h : cmpA a b c d = 0) : a = c ∧ b = d := by
  have e1 := (cmpA_le h1 h2).1 (by omega)
  have e2 := (cmpA_le h2 h1).1 (by have := cmpA_flip a b c d; omega)
  exact frac_ext h1 h2 (by omega)

/-- Whether the two meet: neither lies below the other. -/
def mjB (a b c d e f g h : Int) : Bool := (ivB a b c d && ivB e f g h) && (!decide (cmpA c d e f < 0) && !decide (cmpA g h a b < 0))
def mjL (a b e f : Int) : Int × Int := if 0 < cmpA a b e f then (a, b) else (e, f)
def mjH (c d g h : Int) : Int × Int := if cmpA c d g h < 0 then (c, d) else (g, h)
end Go.Proofs.Ytcfcohnkkgickaa.Num

/-! ### FiPlain -/
namespace Go.Proofs.Ytcfcohnkkgickaa.Num
open Go

/-- The digits of k, none for 0. -/
def dd (k : Nat) : List UInt8 := if k = 0 then [] else Lib.decDigits k

theorem dd_step (k : Nat) (h : k ≠ 0) : dd k = dd (k / 10) ++ [UInt8.ofNat (48 + k % 10)] := by
  unfold dd
  rw [if_neg h]
  by_cases hs : k < 10
  · rw [Lib.decDigits, dif_pos hs, if_pos (by omega), Nat.mod_eq_of_lt hs]; rfl
  · rw [Lib.decDigits, dif_neg hs, if_neg (by omega)]

theorem fi_step {k u : Nat} {acc : List UInt8} (h : dd k ++ acc = dd u) (hk : k ≠ 0) : dd (k / 10) ++ (UInt8.ofNat (48 + k % 10) :: acc) = dd u := by
  rw [← h, dd_step k hk]; simp

theorem fi_end {u : Nat} {acc : List UInt8} (h : dd 0 ++ acc = dd u) : acc = dd u := by rw [← h]; rfl

theorem dd_pos (u : Nat) (h : u ≠ 0) : dd u = Lib.decDigits u := by unfold dd; rw [if_neg h]

theorem itoa_dd (u : Nat) (h : u ≠ 0) : Lib.itoa (u : Int) = dd u := by rw [Lib.itoa_nonneg, dd_pos u h]
theorem itoa_neg_dd (u : Nat) (h : u ≠ 0) : Lib.itoa (-(u : Int)) = 45 :: dd u := by rw [Lib.itoa_neg u (by omega), dd_pos u h]
theorem itoa_zero : Lib.itoa 0 = [48] := by
  rw [show (0 : Int) = ((0 : Nat) : Int) from rfl, Lib.itoa_nonneg, Lib.decDigits, dif_pos (by decide)]
  rfl

theorem dd_len (u : Nat) (h : u ≤ 9223372036854775808) : (dd u).length ≤ 21 := by
  by_cases h0 : u = 0
  · subst h0; decide
  · have := Lib.itoa_length_le (-(u : Int)) (by omega) (by omega)
    rw [itoa_neg_dd u h0] at this
    simp at this
    omega

theorem fi_len {k u : Nat} {acc : List UInt8} (h : dd k ++ acc = dd u) (hu : u ≤ 9223372036854775808) : acc.length ≤ 21 := by
  have := dd_len u hu
  rw [← h, List.length_append] at this
  omega

theorem cat2 (b : UInt8) (acc : List UInt8) : (⟨#[b]⟩ : ByteArray) ++ (⟨acc.toArray⟩ : ByteArray) = ⟨(b :: acc).toArray⟩ := by
  apply ByteArray.ext
  simp

theorem u8m (n : Nat) (h : n < 256) : (UInt8.ofNat n).toNat = n := by simp; omega
end Go.Proofs.Ytcfcohnkkgickaa.Num

/-! ### PiPlain -/
namespace Go.Proofs.Ytcfcohnkkgickaa.Num
open Go

theorem decD_small {u : Nat} (h : u < 10) : Lib.decDigits u = [UInt8.ofNat (48 + u)] := by rw [Lib.decDigits, dif_pos h]
theorem decD_big {u : Nat} (h : ¬ u < 10) : Lib.decDigits u = Lib.decDigits (u / 10) ++ [UInt8.ofNat (48 + u % 10)] := by rw [Lib.decDigits, dif_neg h]

/-- A byte is a digit. -/
def isD (b : UInt8) : Prop := 48 ≤ b.toNat ∧ b.toNat ≤ 57
instance (b : UInt8) : Decidable (isD b) := inferInstanceAs (Decidable (_ ∧ _))

/-- The number that a list of digits writes. -/
def val (l : List UInt8) : Nat := l.foldl (fun n b => n * 10 + (b.toNat - 48)) 0
theorem val_snoc (l : List UInt8) (b : UInt8) : val (l ++ [b]) = val l * 10 + (b.toNat - 48) := by unfold val; rw [List.foldl_append]; rfl

theorem dec_all : ∀ (u : Nat), ∀ b ∈ Lib.decDigits u, isD b := by
  intro u
  induction u using Nat.strongRecOn with
  | _ u ih =>
    intro b hb
    by_cases h : u < 10
    · rw [decD_small h, List.mem_singleton] at hb
      subst hb
      unfold isD
      rw [u8m _ (by omega)]
      omega
    · rw [decD_big h, List.mem_append] at hb
      rcases hb with hb | hb
      · exact ih (u / 10) (by omega) b hb
      · rw [List.mem_singleton] at hb
        subst hb
        unfold isD
        rw [u8m _ (by omega)]
        omega

theorem dec_val : ∀ (u : Nat), val (Lib.decDigits u) = u := by
  intro u
  induction u using Nat.strongRecOn with
  | _ u ih =>
    by_cases h : u < 10
    · rw [decD_small h]
      show 0 * 10 + ((UInt8.ofNat (48 + u)).toNat - 48) = u
      rw [u8m _ (by omega)]
      omega
    · rw [decD_big h, val_snoc, ih (u / 10) (by omega), u8m _ (by omega)]
      omega

theorem dec_len : ∀ (k u : Nat), u < 10 ^ (k + 1) → (Lib.decDigits u).length ≤ k + 1
  | 0, u, h => by rw [decD_small (by simpa using h)]; simp
  | k + 1, u, h => by
    by_cases hs : u < 10
    · rw [decD_small hs]; simp
    · rw [decD_big hs]
      have := dec_len k (u / 10) (by rw [Nat.pow_succ] at h; omega)
      simp; omega

theorem dec_len9 (u : Nat) (h : u ≤ 999999999) : (Lib.decDigits u).length ≤ 9 := by
  have e : (10 : Nat) ^ (8 + 1) = 1000000000 := by decide
  exact dec_len 8 u (by omega)

theorem dec_ne (u : Nat) : Lib.decDigits u ≠ [] := by
  by_cases h : u < 10
  · rw [decD_small h]; simp
  · rw [decD_big h]; simp

theorem val_bd : ∀ (k : Nat) (l : List UInt8), (∀ b ∈ l, isD b) → l.length ≤ k → val l < 10 ^ k := by
  intro k l
  have H : ∀ (r : List UInt8) (a : Nat), (∀ b ∈ r, isD b) → r.foldl (fun n b => n * 10 + (b.toNat - 48)) a < (a + 1) * 10 ^ r.length := by
    intro r
    induction r with
    | nil => intro a _; simp
    | cons c r ih =>
      intro a hd
      have hc := hd c (by simp)
      unfold isD at hc
      have h := ih (a * 10 + (c.toNat - 48)) (fun b hb => hd b (by simp [hb]))
      rw [List.foldl_cons, List.length_cons, Nat.pow_succ]
      refine Nat.lt_of_lt_of_le h ?_
      rw [Nat.mul_comm (10 ^ r.length) 10, ← Nat.mul_assoc]
      exact Nat.mul_le_mul_right _ (by omega)
  intro hd hl
  have := H l 0 hd
  simp only [Nat.zero_add, Nat.one_mul] at this
  exact Nat.lt_of_lt_of_le this (Nat.pow_le_pow_right (by decide) hl)

/-- What ParseInt reads. -/
def PIok (l : List UInt8) (n : Int) : Prop := -999999999 ≤ n ∧ n ≤ 999999999 ∧ l = Lib.itoa n

/-- A text as sign and rest. -/
def Cut (l d : List UInt8) (neg : Bool) : Prop := (neg = true ∧ l = 45 :: d) ∨ (neg = false ∧ l = d ∧ d.head? ≠ some 45)

/-- The number of sign and rest. -/
def sg (neg : Bool) (u : Nat) : Int := if neg then -(u : Int) else u

theorem cut_ok {l d : List UInt8} {neg : Bool} (hc : Cut l d neg) {m : Int} (h : PIok l m) : ∃ u : Nat, u ≤ 999999999 ∧ d = Lib.decDigits u ∧ m = sg neg u := by
  obtain ⟨h1, h2, h3⟩ := h
  rcases Int.lt_or_le m 0 with hm | hm
  · obtain ⟨u, rfl⟩ : ∃ u : Nat, m = -(u : Int) := ⟨m.natAbs, by omega⟩
    rw [Lib.itoa_neg u (by omega)] at h3
    rcases hc with ⟨rfl, hc⟩ | ⟨rfl, rfl, hc⟩
    · rw [hc] at h3
      exact ⟨u, by omega, (List.cons.inj h3).2, rfl⟩
    · rw [h3] at hc
      simp at hc
  · obtain ⟨u, rfl⟩ := Int.eq_ofNat_of_zero_le hm
    rw [Lib.itoa_nonneg] at h3
    rcases hc with ⟨rfl, hc⟩ | ⟨rfl, rfl, hc⟩
    · rw [hc] at h3
      have := dec_all u 45 (by rw [← h3]; simp)
      unfold isD at this
      simp at this
    · exact ⟨u, by omega, h3, rfl⟩

theorem PIok_unique {l : List UInt8} {n m : Int} (h : PIok l n) (h' : PIok l m) : n = m := by
  have hcut : ∃ d neg, Cut l d neg := by
    cases l with
    | nil => exact ⟨[], false, .inr ⟨rfl, rfl, by simp⟩⟩
    | cons b r =>
      by_cases hb : b = 45
      · subst hb; exact ⟨r, true, .inl ⟨rfl, rfl⟩⟩
      · exact ⟨b :: r, false, .inr ⟨rfl, rfl, by simpa using hb⟩⟩
  obtain ⟨d, neg, hc⟩ := hcut
  obtain ⟨u, _, h1, rfl⟩ := cut_ok hc h
  obtain ⟨v, _, h2, rfl⟩ := cut_ok hc h'
  have : u = v := by rw [← dec_val u, ← h1, h2, dec_val]
  rw [this]

/-- What both functions answer: the number, or that there is none. -/
def PIans (l : List UInt8) (n : Int) (ok : Bool) : Prop := (ok = true ∧ PIok l n) ∨ (ok = false ∧ n = 0 ∧ ∀ m, ¬ PIok l m)

theorem PIans_unique {l : List UInt8} {n m : Int} {a b : Bool} (h : PIans l n a) (h' : PIans l m b) : n = m ∧ a = b := by
  rcases h with ⟨rfl, h⟩ | ⟨rfl, rfl, h⟩ <;> rcases h' with ⟨rfl, h'⟩ | ⟨rfl, rfl, h'⟩
  · exact ⟨PIok_unique h h', rfl⟩
  · exact absurd h (h' n)
  · exact absurd h' (h m)
  · exact ⟨rfl, rfl⟩

/-! The model counts digits wherever they stand. -/
def fN (l : List UInt8) : Nat := l.foldl (fun n b => if isD b then n * 10 + (b.toNat - 48) else n) 0
def fK (l : List UInt8) : Nat := l.foldl (fun n b => if isD b then n + 1 else n) 0
theorem fN_snoc (l : List UInt8) (b : UInt8) : fN (l ++ [b]) = if isD b then fN l * 10 + (b.toNat - 48) else fN l := by unfold fN; rw [List.foldl_append]; rfl
theorem fK_snoc (l : List UInt8) (b : UInt8) : fK (l ++ [b]) = if isD b then fK l + 1 else fK l := by unfold fK; rw [List.foldl_append]; rfl

theorem fN_digits (l : List UInt8) (a : Nat) (h : ∀ b ∈ l, isD b) : l.foldl (fun n b => if isD b then n * 10 + (b.toNat - 48) else n) a = l.foldl (fun n b => n * 10 + (b.toNat - 48)) a := by
  induction l generalizing a with
  | nil => rfl
  | cons c l ih =>
    rw [List.foldl_cons, List.foldl_cons, if_pos (h c (by simp))]
    exact ih _ (fun b hb => h b (by simp [hb]))
theorem fK_digits (l : List UInt8) (a : Nat) (h : ∀ b ∈ l, isD b) : l.foldl (fun n b => if isD b then n + 1 else n) a = a + l.length := by
  induction l generalizing a with
  | nil => rfl
  | cons c l ih =>
    rw [List.foldl_cons, if_pos (h c (by simp)), ih _ (fun b hb => h b (by simp [hb])), List.length_cons]
    omega

theorem cut_fold {l d : List UInt8} {neg : Bool} (hc : Cut l d neg) (hd : ∀ b ∈ d, isD b) : fN l = val d ∧ fK l = d.length := by
  have hN : fN d = val d := fN_digits d 0 hd
  have hK : fK d = d.length := by have := fK_digits d 0 hd; rw [Nat.zero_add] at this; exact this
  rcases hc with ⟨_, rfl⟩ | ⟨_, rfl, _⟩
  · have n45 : ¬ isD 45 := by decide
    constructor
    · rw [← hN]; unfold fN; rw [List.foldl_cons, if_neg n45]
    · rw [← hK]; unfold fK; rw [List.foldl_cons, if_neg n45]
  · exact ⟨hN, hK⟩

theorem fN_bd (l : List UInt8) : fN l < 10 ^ fK l := by
  have H : ∀ (r : List UInt8) (a k : Nat), a < 10 ^ k → r.foldl (fun n b => if isD b then n * 10 + (b.toNat - 48) else n) a < 10 ^ (r.foldl (fun n b => if isD b then n + 1 else n) k) := by
    intro r
    induction r with
    | nil => intro a k h; exact h
    | cons c r ih =>
      intro a k h
      rw [List.foldl_cons, List.foldl_cons]
      by_cases hc : isD c
      · rw [if_pos hc, if_pos hc]
        refine ih _ _ ?_
        unfold isD at hc
        rw [Nat.pow_succ]
        omega
      · rw [if_neg hc, if_neg hc]
        exact ih _ _ h
  exact H l 0 0 (by decide)

theorem fK_le (l : List UInt8) : fK l ≤ l.length := by
  have H : ∀ (r : List UInt8) (k : Nat), r.foldl (fun n b => if isD b then n + 1 else n) k ≤ k + r.length := by
    intro r
    induction r with
    | nil => intro k; simp
    | cons c r ih =>
      intro k
      rw [List.foldl_cons, List.length_cons]
      by_cases hc : isD c
      · rw [if_pos hc]; have := ih (k + 1); omega
      · rw [if_neg hc]; have := ih k; omega
  have := H l 0
  rw [Nat.zero_add] at this
  exact this

theorem pi_none {l d : List UInt8} {neg : Bool} (hc : Cut l d neg) (h : ∀ u, u ≤ 999999999 → d = Lib.decDigits u → l = Lib.itoa (sg neg u) → False) : PIans l 0 false :=
  .inr ⟨rfl, rfl, fun m hm => by
    obtain ⟨u, h1, h2, h3⟩ := cut_ok hc hm
    exact h u h1 h2 (by rw [← h3]; exact hm.2.2)⟩

theorem pi_many {l d : List UInt8} {neg : Bool} (hc : Cut l d neg) (hk : 9 < fK l) : PIans l 0 false := by
  refine pi_none hc fun u h1 h2 _ => ?_
  have := (cut_fold hc (by rw [h2]; exact dec_all u)).2
  have := dec_len9 u h1
  rw [← h2] at this
  omega

theorem pi_long {l d : List UInt8} {neg : Bool} (hc : Cut l d neg) (hk : 10 < l.length) : PIans l 0 false := by
  refine pi_none hc fun u h1 h2 _ => ?_
  have := dec_len9 u h1
  rw [← h2] at this
  rcases hc with ⟨_, rfl⟩ | ⟨_, rfl, _⟩
  · simp at hk; omega
  · omega

theorem pi_other {l d : List UInt8} {neg : Bool} (hc : Cut l d neg) (hne : ¬ l = Lib.itoa (sg neg (fN l))) : PIans l 0 false := by
  refine pi_none hc fun u h1 h2 h3 => hne ?_
  have := (cut_fold hc (by rw [h2]; exact dec_all u)).1
  rw [h2, dec_val] at this
  rw [this]
  exact h3

theorem pi_yes {l : List UInt8} {neg : Bool} (hk : fK l ≤ 9) (he : l = Lib.itoa (sg neg (fN l))) : PIans l (sg neg (fN l)) true := by
  have h1 := fN_bd l
  have h2 : 10 ^ fK l ≤ 10 ^ 9 := Nat.pow_le_pow_right (by decide) hk
  have e : (10 : Nat) ^ 9 = 1000000000 := by decide
  refine .inl ⟨rfl, ?_, ?_, he⟩
  · unfold sg; split <;> omega
  · unfold sg; split <;> omega
end Go.Proofs.Ytcfcohnkkgickaa.Num

/-! ### CutPlain -/
namespace Go.Proofs.Ytcfcohnkkgickaa.Num
open Go

/-- a is what stands in l ahead of the first c, b what stands behind it; 'has': there is one. -/
def CutOn (c : UInt8) (l a b : List UInt8) (has : Bool) : Prop := c ∉ a ∧ ((has = true ∧ l = a ++ c :: b) ∨ (has = false ∧ l = a ∧ b = []))

theorem index1 (c : UInt8) : ∀ l : List UInt8, (Lib.index l [c] = -1 ∧ c ∉ l) ∨ ∃ a b, l = a ++ c :: b ∧ c ∉ a ∧ Lib.index l [c] = (a.length : Int)
  | [] => .inl ⟨rfl, by simp⟩
  | x :: l => by
    by_cases hx : x = c
    · subst hx
      exact .inr ⟨[], l, rfl, by simp, by unfold Lib.index; simp [List.isPrefixOf]⟩
    · have h0 : ([c] : List UInt8).isPrefixOf (x :: l) = false := by simp [List.isPrefixOf]; exact fun e => hx e.symm
      rcases index1 c l with ⟨h1, h2⟩ | ⟨a, b, rfl, h2, h3⟩
      · exact .inl ⟨by unfold Lib.index; rw [h0, h1]; rfl, by simp; exact ⟨fun e => hx e.symm, h2⟩⟩
      · refine .inr ⟨x :: a, b, rfl, by simp; exact ⟨fun e => hx e.symm, h2⟩, ?_⟩
        unfold Lib.index
        rw [h0, h3]
        have : ((a.length : Int) == -1) = false := by rw [beq_eq_false_iff_ne]; omega
        rw [this]
        simp

theorem cut_on (c : UInt8) (l : List UInt8) : CutOn c l (Lib.cut l [c]).1 (Lib.cut l [c]).2.1 (Lib.cut l [c]).2.2 := by
  unfold Lib.cut
  rcases index1 c l with ⟨h1, h2⟩ | ⟨a, b, rfl, h2, h3⟩
  · rw [h1]
    exact ⟨h2, .inr ⟨rfl, rfl, rfl⟩⟩
  · rw [h3, if_pos (by omega)]
    have e : ((a.length : Int)).toNat = a.length := by omega
    have e2 : a ++ c :: b = (a ++ [c]) ++ b := by simp
    refine ⟨?_, .inl ⟨rfl, ?_⟩⟩
    · simpa [e] using h2
    · simp only [e, List.length_singleton]
      rw [List.take_left' rfl, e2, List.drop_left' (by simp)]
      exact e2.symm

theorem app_unique {c : UInt8} : ∀ {a a' b b' : List UInt8}, c ∉ a → c ∉ a' → a ++ c :: b = a' ++ c :: b' → a = a' ∧ b = b'
  | [], [], b, b', _, _, h => ⟨rfl, by simpa using h⟩
  | [], x :: a', b, b', _, h', h => by simp at h; simp [h.1] at h'
  | x :: a, [], b, b', h', _, h => by simp at h; simp [h.1] at h'
  | x :: a, y :: a', b, b', h1, h2, h => by
    simp only [List.cons_append, List.cons.injEq] at h
    simp only [List.mem_cons, not_or] at h1 h2
    obtain ⟨e1, e2⟩ := app_unique h1.2 h2.2 h.2
    exact ⟨by rw [h.1, e1], e2⟩

/-- The pieces of l between the c. -/
def pieces (c : UInt8) : List UInt8 → List (List UInt8)
  | [] => [[]]
  | b :: l => if b = c then [] :: pieces c l else match pieces c l with | [] => [[b]] | p :: r => (b :: p) :: r

theorem pieces_cut (c : UInt8) : ∀ (a b : List UInt8), c ∉ a → pieces c (a ++ c :: b) = a :: pieces c b
  | [], b, _ => by simp [pieces]
  | x :: a, b, h => by
    simp only [List.mem_cons, not_or] at h
    rw [List.cons_append, pieces, if_neg (fun e => h.1 e.symm), pieces_cut c a b h.2]

theorem pieces_none (c : UInt8) : ∀ (a : List UInt8), c ∉ a → pieces c a = [a]
  | [], _ => rfl
  | x :: a, h => by
    simp only [List.mem_cons, not_or] at h
    rw [pieces, if_neg (fun e => h.1 e.symm), pieces_none c a h.2]

theorem pieces_len (c : UInt8) : ∀ (l : List UInt8), 1 ≤ (pieces c l).length ∧ (pieces c l).length ≤ l.length + 1
  | [] => by simp [pieces]
  | x :: l => by
    have ih := pieces_len c l
    rw [pieces]
    split
    · simp only [List.length_cons]; omega
    · split
      · next h => rw [h] at ih; simp at ih
      · next h => rw [h] at ih; simp only [List.length_cons] at ih ⊢; omega
end Go.Proofs.Ytcfcohnkkgickaa.Num

/-! ### FrText -/
namespace Go.Proofs.Ytcfcohnkkgickaa.Num
open Go

/-- The format of n / d. -/
def fmtF (n d : Int) : List UInt8 := if frB n d = true then (if d = 1 then Lib.itoa n else Lib.itoa n ++ 47 :: Lib.itoa d) else []

theorem fmtF_no {n d : Int} (h : frB n d = false) : fmtF n d = [] := by unfold fmtF; rw [h]; rfl
theorem fmtF_one {n : Int} (h : frB n 1 = true) : fmtF n 1 = Lib.itoa n := by unfold fmtF; rw [if_pos h, if_pos rfl]
theorem fmtF_two {n d : Int} (h : frB n d = true) (hd : d ≠ 1) : fmtF n d = Lib.itoa n ++ 47 :: Lib.itoa d := by unfold fmtF; rw [if_pos h, if_neg hd]

theorem itoa_slash (n : Int) : (47 : UInt8) ∉ Lib.itoa n := by
  intro h
  unfold Lib.itoa at h
  split at h
  · rcases List.mem_cons.1 h with h | h
    · cases h
    · have := dec_all _ _ h; unfold isD at this; simp at this
  · have := dec_all _ _ h; unfold isD at this; simp at this

theorem itoa_ne (n : Int) : Lib.itoa n ≠ [] := by
  unfold Lib.itoa
  split
  · simp
  · exact dec_ne _

theorem frB_one {n : Int} (h1 : -999999999 ≤ n) (h2 : n ≤ 999999999) : frB n 1 = true := frB_yes ⟨h1, h2, by omega, by omega⟩ (by simp)

theorem fmt_cut {n d : Int} (h : frB n d = true) {a b : List UInt8} {has : Bool} (hc : CutOn 47 (fmtF n d) a b has) :
    PIok a n ∧ ((d = 1 ∧ has = false) ∨ (d ≠ 1 ∧ has = true ∧ PIok b d)) := by
  obtain ⟨⟨l1, l2, l3, l4⟩, _⟩ := frB_of h
  by_cases hd : d = 1
  · subst hd
    rw [fmtF_one h] at hc
    obtain ⟨hm, ⟨rfl, e⟩ | ⟨rfl, e, _⟩⟩ := hc
    · exact absurd (by rw [e]; simp) (itoa_slash n)
    · exact ⟨⟨l1, l2, e.symm⟩, .inl ⟨rfl, rfl⟩⟩
  · rw [fmtF_two h hd] at hc
    obtain ⟨hm, ⟨rfl, e⟩ | ⟨rfl, e, _⟩⟩ := hc
    · obtain ⟨rfl, rfl⟩ := app_unique (itoa_slash n) hm e
      exact ⟨⟨l1, l2, rfl⟩, .inr ⟨hd, rfl, by omega, by omega, rfl⟩⟩
    · rw [← e] at hm
      exact absurd (by simp) hm

/-- What both functions read: a fraction, or that there is none. -/
def PFans (l : List UInt8) (n d : Int) (ok : Bool) : Prop := (ok = true ∧ frB n d = true ∧ l = fmtF n d) ∨ (ok = false ∧ n = 0 ∧ d = 0 ∧ ∀ m e, frB m e = true → l ≠ fmtF m e)

theorem cut_any (c : UInt8) (l : List UInt8) : ∃ a b has, CutOn c l a b has := ⟨_, _, _, cut_on c l⟩

theorem fmt_unique {n d m e : Int} (h : frB n d = true) (h' : frB m e = true) (heq : fmtF n d = fmtF m e) : n = m ∧ d = e := by
  obtain ⟨a, b, has, hc⟩ := cut_any 47 (fmtF n d)
  obtain ⟨p1, q1⟩ := fmt_cut h hc
  rw [heq] at hc
  obtain ⟨p2, q2⟩ := fmt_cut h' hc
  refine ⟨PIok_unique p1 p2, ?_⟩
  rcases q1 with ⟨rfl, h1⟩ | ⟨_, h1, r1⟩ <;> rcases q2 with ⟨rfl, h2⟩ | ⟨_, h2, r2⟩
  · rfl
  · rw [h1] at h2; cases h2
  · rw [h1] at h2; cases h2
  · exact PIok_unique r1 r2

theorem PFans_unique {l : List UInt8} {n d m e : Int} {x y : Bool} (h : PFans l n d x) (h' : PFans l m e y) : n = m ∧ d = e ∧ x = y := by
  rcases h with ⟨rfl, h, e1⟩ | ⟨rfl, rfl, rfl, h⟩ <;> rcases h' with ⟨rfl, h', e2⟩ | ⟨rfl, rfl, rfl, h'⟩
  · obtain ⟨r1, r2⟩ := fmt_unique h h' (by rw [← e1, ← e2])
    exact ⟨r1, r2, rfl⟩
  · exact absurd e1 (h' _ _ h)
  · exact absurd e2 (h _ _ h')
  · exact ⟨rfl, rfl, rfl⟩

/-- The numbers ahead of and behind the stroke (1 where there is none). -/
def DenAns (b : List UInt8) (has : Bool) (den : Int) : Prop := (has = false ∧ den = 1) ∨ (has = true ∧ ∃ k, PIans b den k)

theorem pf_no {l a b : List UInt8} {has k : Bool} {num den : Int} (hc : CutOn 47 l a b has) (ha : PIans a num k) (hb : DenAns b has den) (hne : l ≠ fmtF num den) : PFans l 0 0 false := by
  refine .inr ⟨rfl, rfl, rfl, fun m e h heq => hne ?_⟩
  rw [heq] at hc
  obtain ⟨p1, q1⟩ := fmt_cut h hc
  have hm : num = m := by
    rcases ha with ⟨_, ha⟩ | ⟨_, _, ha⟩
    · exact PIok_unique ha p1
    · exact absurd p1 (ha m)
  have he : den = e := by
    rcases q1 with ⟨rfl, h1⟩ | ⟨_, h1, r1⟩ <;> rcases hb with ⟨h2, h3⟩ | ⟨h2, k, h3⟩
    · exact h3
    · rw [h1] at h2; cases h2
    · rw [h1] at h2; cases h2
    · rcases h3 with ⟨_, h3⟩ | ⟨_, _, h3⟩
      · exact PIok_unique h3 r1
      · exact absurd r1 (h3 e)
  rw [hm, he]; exact heq

theorem pf_yes {l : List UInt8} {num den : Int} (hl : l ≠ []) (he : l = fmtF num den) : PFans l num den true := by
  refine .inl ⟨rfl, ?_, he⟩
  cases h : frB num den
  · exact absurd (by rw [he, fmtF_no h]) hl
  · rfl

theorem pf_nil : PFans [] 0 0 false := by
  refine .inr ⟨rfl, rfl, rfl, fun m e h heq => ?_⟩
  obtain ⟨p1, _⟩ := fmt_cut (a := []) (b := []) (has := false) h (by rw [← heq]; exact ⟨by simp, .inr ⟨rfl, rfl, rfl⟩⟩)
  exact itoa_ne m p1.2.2.symm

theorem pf_badnum {l a b : List UInt8} {has : Bool} (hc : CutOn 47 l a b has) (ha : PIans a 0 false) : PFans l 0 0 false := by
  refine .inr ⟨rfl, rfl, rfl, fun m e h heq => ?_⟩
  rw [heq] at hc
  obtain ⟨p1, _⟩ := fmt_cut h hc
  rcases ha with ⟨h', _⟩ | ⟨_, _, ha⟩
  · cases h'
  · exact ha m p1

theorem pf_badden {l a b : List UInt8} (hc : CutOn 47 l a b true) (hb : PIans b 0 false) : PFans l 0 0 false := by
  refine .inr ⟨rfl, rfl, rfl, fun m e h heq => ?_⟩
  rw [heq] at hc
  obtain ⟨_, ⟨_, h1⟩ | ⟨_, _, r1⟩⟩ := fmt_cut h hc
  · cases h1
  · rcases hb with ⟨h', _⟩ | ⟨_, _, hb⟩
    · cases h'
    · exact hb e r1

theorem pf_three {l a b a' b' : List UInt8} (hc : CutOn 47 l a b true) (hc' : CutOn 47 b a' b' true) : PFans l 0 0 false := by
  refine .inr ⟨rfl, rfl, rfl, fun m e h heq => ?_⟩
  rw [heq] at hc
  obtain ⟨_, ⟨_, h1⟩ | ⟨_, _, r1⟩⟩ := fmt_cut h hc
  · cases h1
  · obtain ⟨_, ⟨_, e'⟩ | ⟨h1, _⟩⟩ := hc'
    · refine itoa_slash e ?_
      rw [← r1.2.2, e']
      simp
    · cases h1
end Go.Proofs.Ytcfcohnkkgickaa.Num

/-! ### IvText -/
namespace Go.Proofs.Ytcfcohnkkgickaa.Num
open Go

/-- The format of a / b to c / d. -/
def fmtI (a b c d : Int) : List UInt8 := if ivB a b c d = true then (if a = c ∧ b = d then fmtF a b else fmtF a b ++ 46 :: 46 :: fmtF c d) else []
theorem fmtI_no {a b c d : Int} (h : ivB a b c d = false) : fmtI a b c d = [] := by unfold fmtI; rw [if_neg (by rw [h]; simp)]
theorem fmtI_one {a b : Int} (h : ivB a b a b = true) : fmtI a b a b = fmtF a b := by unfold fmtI; rw [if_pos h, if_pos ⟨rfl, rfl⟩]
theorem fmtI_two {a b c d : Int} (h : ivB a b c d = true) (hne : ¬ (a = c ∧ b = d)) : fmtI a b c d = fmtF a b ++ 46 :: 46 :: fmtF c d := by unfold fmtI; rw [if_pos h, if_neg hne]

theorem itoa_dot (n : Int) : (46 : UInt8) ∉ Lib.itoa n := by
  intro h
  unfold Lib.itoa at h
  split at h
  · rcases List.mem_cons.1 h with h | h
    · cases h
    · have := dec_all _ _ h; unfold isD at this; simp at this
  · have := dec_all _ _ h; unfold isD at this; simp at this

theorem fmtF_dot (n d : Int) : (46 : UInt8) ∉ fmtF n d := by
  unfold fmtF
  split
  · split
    · exact itoa_dot n
    · simp only [List.mem_append, List.mem_cons, not_or]
      exact ⟨itoa_dot n, by decide, itoa_dot d⟩
  · simp

theorem fmtF_ne {n d : Int} (h : frB n d = true) : fmtF n d ≠ [] := by
  intro e
  by_cases hd : d = 1
  · subst hd; rw [fmtF_one h] at e; exact itoa_ne n e
  · rw [fmtF_two h hd] at e; simp at e

/-- What ParseInterval answers. -/
def PIv (l : List UInt8) (a b c d : Int) (ok : Bool) : Prop := (ok = true ∧ ivB a b c d = true ∧ l = fmtI a b c d) ∨ (ok = false ∧ a = 0 ∧ b = 0 ∧ c = 0 ∧ d = 0 ∧ ∀ x y u v, ivB x y u v = true → l ≠ fmtI x y u v)

/-- A format is read back: the text ahead of the first point, and what follows the second. -/
theorem fmtI_cut {x y u v : Int} (h : ivB x y u v = true) {p q : List UInt8} {has : Bool} (hc : CutOn 46 (fmtI x y u v) p q has) :
    p = fmtF x y ∧ ((x = u ∧ y = v ∧ has = false) ∨ (¬ (x = u ∧ y = v) ∧ has = true ∧ q = 46 :: fmtF u v)) := by
  by_cases he : x = u ∧ y = v
  · obtain ⟨rfl, rfl⟩ := he
    rw [fmtI_one h] at hc
    obtain ⟨hm, ⟨rfl, e⟩ | ⟨rfl, e, _⟩⟩ := hc
    · exact absurd (by rw [e]; simp) (fmtF_dot x y)
    · exact ⟨e.symm, .inl ⟨rfl, rfl, rfl⟩⟩
  · rw [fmtI_two h he] at hc
    obtain ⟨hm, ⟨rfl, e⟩ | ⟨rfl, e, _⟩⟩ := hc
    · obtain ⟨rfl, rfl⟩ := app_unique (fmtF_dot x y) hm e
      exact ⟨rfl, .inr ⟨he, rfl, rfl⟩⟩
    · rw [← e] at hm
      exact absurd (by simp) hm

theorem fmtI_unique {a b c d x y u v : Int} (h : ivB a b c d = true) (h' : ivB x y u v = true) (heq : fmtI a b c d = fmtI x y u v) : a = x ∧ b = y ∧ c = u ∧ d = v := by
  obtain ⟨p, q, has, hc⟩ := cut_any 46 (fmtI a b c d)
  obtain ⟨p1, q1⟩ := fmtI_cut h hc
  rw [heq] at hc
  obtain ⟨p2, q2⟩ := fmtI_cut h' hc
  obtain ⟨f1, f2, _⟩ := ivB_of h
  obtain ⟨g1, g2, _⟩ := ivB_of h'
  obtain ⟨rfl, rfl⟩ := fmt_unique f1 g1 (by rw [← p1, ← p2])
  rcases q1 with ⟨rfl, rfl, h1⟩ | ⟨_, h1, r1⟩ <;> rcases q2 with ⟨rfl, rfl, h2⟩ | ⟨_, h2, r2⟩
  · exact ⟨rfl, rfl, rfl, rfl⟩
  · rw [h1] at h2; cases h2
  · rw [h1] at h2; cases h2
  · rw [r1] at r2
    obtain ⟨rfl, rfl⟩ := fmt_unique f2 g2 (List.cons.inj r2).2
    exact ⟨rfl, rfl, rfl, rfl⟩

theorem PIv_unique {l : List UInt8} {a b c d x y u v : Int} {j k : Bool} (h : PIv l a b c d j) (h' : PIv l x y u v k) : a = x ∧ b = y ∧ c = u ∧ d = v ∧ j = k := by
  rcases h with ⟨rfl, h, e1⟩ | ⟨rfl, rfl, rfl, rfl, rfl, h⟩ <;> rcases h' with ⟨rfl, h', e2⟩ | ⟨rfl, rfl, rfl, rfl, rfl, h'⟩
  · obtain ⟨r1, r2, r3, r4⟩ := fmtI_unique h h' (by rw [← e1, ← e2])
    exact ⟨r1, r2, r3, r4, rfl⟩
  · exact absurd e1 (h' _ _ _ _ h)
  · exact absurd e2 (h _ _ _ _ h')
  · exact ⟨rfl, rfl, rfl, rfl, rfl⟩
end Go.Proofs.Ytcfcohnkkgickaa.Num

/-! ### RwPlain -/
namespace Go.Proofs.Ytcfcohnkkgickaa.Num
open Go

/-- Whether a row is valid. -/
def rowB (i g y x : Int) (nl : Bool) : Bool := decide (1 ≤ i ∧ i ≤ 99) && (decide (0 ≤ g ∧ g ≤ 3) && (decide (0 ≤ y ∧ y ≤ 8) && (decide (-99 ≤ x ∧ x ≤ 99) && (!nl || decide (x = 0)))))

theorem rowB_of {i g y x : Int} {nl : Bool} (h : rowB i g y x nl = true) : (1 ≤ i ∧ i ≤ 99) ∧ (0 ≤ g ∧ g ≤ 3) ∧ (0 ≤ y ∧ y ≤ 8) ∧ (-99 ≤ x ∧ x ≤ 99) ∧ (nl = true → x = 0) := by
  unfold rowB at h
  simp only [Bool.and_eq_true, decide_eq_true_eq, Bool.or_eq_true, Bool.not_eq_true'] at h
  obtain ⟨h1, h2, h3, h4, h5⟩ := h
  exact ⟨h1, h2, h3, h4, fun hn => h5.resolve_left (by rw [hn]; simp)⟩

theorem rowB_yes {i g y x : Int} {nl : Bool} (h1 : 1 ≤ i ∧ i ≤ 99) (h2 : 0 ≤ g ∧ g ≤ 3) (h3 : 0 ≤ y ∧ y ≤ 8) (h4 : -99 ≤ x ∧ x ≤ 99) (h5 : nl = true → x = 0) : rowB i g y x nl = true := by
  unfold rowB
  simp only [Bool.and_eq_true, decide_eq_true_eq, Bool.or_eq_true, Bool.not_eq_true']
  refine ⟨h1, h2, h3, h4, ?_⟩
  cases nl
  · exact .inl rfl
  · exact .inr (h5 rfl)

/-- The word null. -/
def nullW : List UInt8 := [110, 117, 108, 108]

/-- X's text. -/
def xT (x : Int) (nl : Bool) : List UInt8 := if nl = true then nullW else Lib.itoa x

/-- The format of a row. -/
def fmtR (i g y x : Int) (nl : Bool) : List UInt8 := if rowB i g y x nl = true then Lib.itoa i ++ 58 :: (Lib.itoa g ++ 44 :: (Lib.itoa y ++ 44 :: xT x nl)) else []

theorem fmtR_no {i g y x : Int} {nl : Bool} (h : rowB i g y x nl = false) : fmtR i g y x nl = [] := by unfold fmtR; rw [if_neg (by rw [h]; simp)]
theorem fmtR_yes {i g y x : Int} {nl : Bool} (h : rowB i g y x nl = true) : fmtR i g y x nl = Lib.itoa i ++ 58 :: (Lib.itoa g ++ 44 :: (Lib.itoa y ++ 44 :: xT x nl)) := by unfold fmtR; rw [if_pos h]

/-- A byte that is no digit and no minus sign is not in a numeral. -/
theorem itoa_not {c : UInt8} (hc : c ≠ 45) (hd : ¬ isD c) (n : Int) : c ∉ Lib.itoa n := by
  intro h
  unfold Lib.itoa at h
  split at h
  · rcases List.mem_cons.1 h with h | h
    · exact hc h
    · exact hd (dec_all _ _ h)
  · exact hd (dec_all _ _ h)
theorem itoa_colon (n : Int) : (58 : UInt8) ∉ Lib.itoa n := itoa_not (by decide) (by unfold isD; decide) n
theorem itoa_comma (n : Int) : (44 : UInt8) ∉ Lib.itoa n := itoa_not (by decide) (by unfold isD; decide) n
theorem itoa_null (n : Int) : Lib.itoa n ≠ nullW := by
  intro h
  exact itoa_not (c := 110) (by decide) (by unfold isD; decide) n (by rw [h]; unfold nullW; simp)

theorem xT_colon (x : Int) (nl : Bool) : (58 : UInt8) ∉ xT x nl := by
  unfold xT
  split
  · unfold nullW; decide
  · exact itoa_colon x
theorem xT_comma (x : Int) (nl : Bool) : (44 : UInt8) ∉ xT x nl := by
  unfold xT
  split
  · unfold nullW; decide
  · exact itoa_comma x

theorem PIok_small {n : Int} (h1 : -99 ≤ n) (h2 : n ≤ 99) : PIok (Lib.itoa n) n := ⟨by omega, by omega, rfl⟩

/-- What stands behind the colon. -/
def tailR (g y x : Int) (nl : Bool) : List UInt8 := Lib.itoa g ++ 44 :: (Lib.itoa y ++ 44 :: xT x nl)
theorem tailR_colon (g y x : Int) (nl : Bool) : (58 : UInt8) ∉ tailR g y x nl := by
  unfold tailR
  simp only [List.mem_append, List.mem_cons, not_or]
  exact ⟨itoa_colon g, by decide, itoa_colon y, by decide, xT_colon x nl⟩

theorem pieces_fmtR {i g y x : Int} {nl : Bool} (h : rowB i g y x nl = true) : pieces 58 (fmtR i g y x nl) = [Lib.itoa i, tailR g y x nl] := by
  rw [fmtR_yes h, pieces_cut _ _ _ (itoa_colon i)]
  show Lib.itoa i :: pieces 58 (tailR g y x nl) = _
  rw [pieces_none _ _ (tailR_colon g y x nl)]
theorem pieces_tailR (g y x : Int) (nl : Bool) : pieces 44 (tailR g y x nl) = [Lib.itoa g, Lib.itoa y, xT x nl] := by
  unfold tailR
  rw [pieces_cut _ _ _ (itoa_comma g), pieces_cut _ _ _ (itoa_comma y), pieces_none _ _ (xT_comma x nl)]

theorem fmtR_ne {i g y x : Int} {nl : Bool} (h : rowB i g y x nl = true) : fmtR i g y x nl ≠ [] := by
  rw [fmtR_yes h]
  simp

/-- Two valid rows of one format are one. -/
theorem fmtR_unique {i g y x i' g' y' x' : Int} {nl nl' : Bool} (h : rowB i g y x nl = true) (h' : rowB i' g' y' x' nl' = true) (he : fmtR i g y x nl = fmtR i' g' y' x' nl') : i = i' ∧ g = g' ∧ y = y' ∧ x = x' ∧ nl = nl' := by
  obtain ⟨a1, a2, a3, a4, a5⟩ := rowB_of h
  obtain ⟨b1, b2, b3, b4, b5⟩ := rowB_of h'
  have p := pieces_fmtR h
  rw [he, pieces_fmtR h'] at p
  simp only [List.cons.injEq, and_true] at p
  obtain ⟨p1, p2⟩ := p
  have q := pieces_tailR g y x nl
  rw [← p2, pieces_tailR] at q
  simp only [List.cons.injEq, and_true] at q
  obtain ⟨q1, q2, q3⟩ := q
  have num : ∀ {n m : Int}, (-99 ≤ n ∧ n ≤ 99) → (-99 ≤ m ∧ m ≤ 99) → Lib.itoa m = Lib.itoa n → n = m := fun hn hm e => PIok_unique (PIok_small hn.1 hn.2) (by rw [← e]; exact PIok_small hm.1 hm.2)
  refine ⟨num (by omega) (by omega) p1, num (by omega) (by omega) q1, num (by omega) (by omega) q2, ?_⟩
  unfold xT at q3
  cases nl <;> cases nl'
  · exact ⟨num a4 b4 (by simpa using q3), rfl⟩
  · exact absurd (by simpa using q3.symm) (itoa_null x)
  · exact absurd (by simpa using q3) (itoa_null x')
  · exact ⟨by rw [a5 rfl, b5 rfl], rfl⟩

/-- What ParseRow answers. -/
def PRow (l : List UInt8) (i g y x : Int) (nl ok : Bool) : Prop := (ok = true ∧ rowB i g y x nl = true ∧ l = fmtR i g y x nl) ∨ (ok = false ∧ i = 0 ∧ g = 0 ∧ y = 0 ∧ x = 0 ∧ nl = false ∧ ∀ i' g' y' x' nl', rowB i' g' y' x' nl' = true → l ≠ fmtR i' g' y' x' nl')

theorem PRow_unique {l : List UInt8} {i g y x i' g' y' x' : Int} {nl nl' ok ok' : Bool} (h : PRow l i g y x nl ok) (h' : PRow l i' g' y' x' nl' ok') : i = i' ∧ g = g' ∧ y = y' ∧ x = x' ∧ nl = nl' ∧ ok = ok' := by
  rcases h with ⟨rfl, h, e⟩ | ⟨rfl, rfl, rfl, rfl, rfl, rfl, h⟩ <;> rcases h' with ⟨rfl, h', e'⟩ | ⟨rfl, rfl, rfl, rfl, rfl, rfl, h'⟩
  · obtain ⟨r1, r2, r3, r4, r5⟩ := fmtR_unique h h' (by rw [← e, ← e'])
    exact ⟨r1, r2, r3, r4, r5, rfl⟩
  · exact absurd e (h' _ _ _ _ _ h)
  · exact absurd e' (h _ _ _ _ _ h')
  · exact ⟨rfl, rfl, rfl, rfl, rfl, rfl⟩

/-- A row whose format is the text: the row is read. -/
theorem PRow_yes {l : List UInt8} {i g y x : Int} {nl : Bool} (hl : l ≠ []) (he : l = fmtR i g y x nl) : PRow l i g y x nl true := by
  refine .inl ⟨rfl, ?_, he⟩
  cases h : rowB i g y x nl
  · exact absurd (by rw [he, fmtR_no h]) hl
  · rfl
theorem PRow_no {l : List UInt8} (h : ∀ i g y x nl, rowB i g y x nl = true → l ≠ fmtR i g y x nl) : PRow l 0 0 0 0 false false := .inr ⟨rfl, rfl, rfl, rfl, rfl, rfl, h⟩

theorem fmtR_len {i g y x : Int} {nl : Bool} : (fmtR i g y x nl).length ≤ 130 := by
  cases h : rowB i g y x nl
  · rw [fmtR_no h]; simp
  · obtain ⟨a1, a2, a3, a4, a5⟩ := rowB_of h
    rw [fmtR_yes h]
    have l1 := Lib.itoa_length_le i (by omega) (by omega)
    have l2 := Lib.itoa_length_le g (by omega) (by omega)
    have l3 := Lib.itoa_length_le y (by omega) (by omega)
    have l4 := Lib.itoa_length_le x (by omega) (by omega)
    simp only [List.length_append, List.length_cons]
    unfold xT nullW
    split
    · simp only [List.length_cons, List.length_nil]; omega
    · omega
end Go.Proofs.Ytcfcohnkkgickaa.Num

namespace Go.Proofs.Ytcfcohnkkgickaa
open Go.RowKit

theorem l1In_yes (n lo hi : Int) (w : World) (h1 : lo ≤ n) (h2 : n ≤ hi) :
    Calls Try.prog 98 #[.int .i64 n, .int .i64 lo, .int .i64 hi] w fun e w' => e = .returned (.bool true) ∧ w = w' := by
  go_enter Try.func98, Try.ntmps98
  go_wp2
  go_ret
  exact ⟨rfl, rfl⟩

theorem l1In_no (n lo hi : Int) (w : World) (h : n < lo ∨ hi < n) :
    Calls Try.prog 98 #[.int .i64 n, .int .i64 lo, .int .i64 hi] w fun e w' => e = .returned (.bool false) ∧ w = w' := by
  by_cases h1 : n < lo
  · go_enter Try.func98, Try.ntmps98
    go_wp2
    go_ret
    exact ⟨rfl, rfl⟩
  · have h2 : hi < n := by omega
    have h3 : ¬ n ≤ hi := by omega
    have h4 : decide (n ≤ hi) = false := by simp [h3]
    clear h
    go_enter Try.func98, Try.ntmps98
    go_wp2
    go_ret
    exact ⟨rfl, rfl⟩
end Go.Proofs.Ytcfcohnkkgickaa


/-! ### Help -/
namespace Go.Proofs.Ytcfcohnkkgickaa
open Go.RowKit

theorem below_drewN {B : Nat} {a w : World} (h : Below B a w) (n : Nat) : Below B a (w.drewN n) := ⟨h.os, h.tape, h.output, h.size, h.block⟩

/-- A contract 'w = w'' for a quiet region. -/
theorem calls_flip {P : Program} {f : FuncId} {args : Array Value} {w : World} {v : Value} (h : Calls P f args w fun e w' => e = .returned v ∧ w = w') : Calls P f args w fun e w' => e = .returned v ∧ w' = w :=
  h.mono fun _ _ ⟨a, b⟩ => ⟨a, b.symm⟩

theorem calls_quiet {P : Program} {f : FuncId} {args : Array Value} {w : World} {n : Nat} {v : Value} (h : Calls P f args (w.drewN n) fun e w' => e = .returned v ∧ w.drewN n = w') : Calls P f args (w.drewN n) fun e w'' => e = .returned v ∧ ∃ m, w'' = w.drewN m :=
  Calls.quiet_of_same (calls_flip h)

theorem ret_bool {a b : Bool} (h : a = b) : Ending.returned (.bool a) = .returned (.bool b) := by rw [h]
theorem ret_int {a b : Int} (h : a = b) : Ending.returned (.int .i64 a) = .returned (.int .i64 b) := by rw [h]
theorem bcell {W w1 : World} (hb : Below W.heap.size W w1) : (∀ b o, b < W.heap.size → w1.cell? ⟨b, o, none⟩ = W.cell? ⟨b, o, none⟩) ∧ (∀ b o, b < W.heap.size → w1.frozen? ⟨b, o, none⟩ = W.frozen? ⟨b, o, none⟩) :=
  ⟨fun b o h => hb.cell (p := ⟨b, o, none⟩) h, fun b o h => hb.frozen (p := ⟨b, o, none⟩) h⟩

theorem box2_start (w : World) (x y : Value) (t : TypeId) :
    (w.alloc (.cells #[x, y] t)).drew.cell? ⟨w.heap.size, 0, none⟩ = some x ∧ (w.alloc (.cells #[x, y] t)).drew.cell? ⟨w.heap.size, 1, none⟩ = some y ∧ Below w.heap.size w (w.alloc (.cells #[x, y] t)).drew ∧ w.heap.size < (w.alloc (.cells #[x, y] t)).drew.heap.size := by
  refine ⟨by go_simp, by go_simp, ((Below.refl _ _).alloc (Nat.le_refl _) _).drew, ?_⟩
  show w.heap.size < (w.alloc (.cells #[x, y] t)).heap.size
  simp

theorem box2_keep {W w0 w1 : World} {x y : Option Value} {B : Nat} (h : w0.cell? ⟨B, 0, none⟩ = x ∧ w0.cell? ⟨B, 1, none⟩ = y ∧ Below B W w0 ∧ B < w0.heap.size) (hb : Below w0.heap.size w0 w1) :
    w1.cell? ⟨B, 0, none⟩ = x ∧ w1.cell? ⟨B, 1, none⟩ = y ∧ Below B W w1 ∧ B < w1.heap.size := by
  obtain ⟨h1, h2, h3, h4⟩ := h
  refine ⟨?_, ?_, h3.trans (hb.mono (by omega)), Nat.lt_of_lt_of_le h4 hb.size⟩
  · rw [hb.cell (p := ⟨B, 0, none⟩) h4]; exact h1
  · rw [hb.cell (p := ⟨B, 1, none⟩) h4]; exact h2

theorem i64_rng {a : Int} (h : (Lit.int .i64 a).wf = true) : -9223372036854775808 ≤ a ∧ a ≤ 9223372036854775807 := by
  simp only [Lit.wf, Bool.and_eq_true, decide_eq_true_eq] at h
  have e1 : IntKind.i64.min = -9223372036854775808 := by decide
  have e2 : IntKind.i64.max = 9223372036854775807 := by decide
  omega

/-- The world has at most new blocks since W, and the cells l hold what they held and may be written. -/
def Kept (W w : World) (l : List (Addr × Value)) : Prop := Below W.heap.size W w ∧ ∀ p ∈ l, p.1.block < w.heap.size ∧ w.cell? p.1 = some p.2 ∧ w.frozen? p.1 = false

theorem Kept.start (W : World) : Kept W W [] := ⟨Below.refl _ _, fun _ h => by cases h⟩

theorem Kept.step {W w w1 : World} {l : List (Addr × Value)} (h : Kept W w l) (hb : Below w.heap.size w w1) : Kept W w1 l :=
  ⟨h.1.trans (hb.mono h.1.size), fun p hp => ⟨Nat.lt_of_lt_of_le (h.2 p hp).1 hb.size, by rw [hb.cell (h.2 p hp).1]; exact (h.2 p hp).2.1, by rw [hb.frozen (h.2 p hp).1]; exact (h.2 p hp).2.2⟩⟩

theorem Kept.alloc2 {W w : World} {l : List (Addr × Value)} (h : Kept W w l) (x y : Value) (t : TypeId) (B : Nat) (hB : w.heap.size = B) :
    Kept W (w.alloc (.cells #[x, y] t)) ((⟨B, 0, none⟩, x) :: (⟨B, 1, none⟩, y) :: l) := by
  subst hB
  have h1 := h.step ((Below.refl w.heap.size w).alloc (Nat.le_refl _) (.cells #[x, y] t))
  refine ⟨h1.1, fun p hp => ?_⟩
  simp only [List.mem_cons] at hp
  rcases hp with rfl | rfl | hp
  · exact ⟨by simp, by go_simp, by go_simp⟩
  · exact ⟨by simp, by go_simp, by go_simp⟩
  · exact h1.2 p hp

theorem Kept.drew {W w : World} {l : List (Addr × Value)} (h : Kept W w l) : Kept W w.drew l := h.step (Below.refl _ _).drew

theorem Kept.get {W w : World} {l : List (Addr × Value)} (h : Kept W w l) (i : Nat) {a : Addr} {v : Value} (hi : l[i]? = some (a, v)) : w.cell? a = some v :=
  (h.2 (a, v) (List.mem_of_getElem? hi)).2.1
theorem Kept.fz {W w : World} {l : List (Addr × Value)} (h : Kept W w l) (i : Nat) {a : Addr} {v : Value} (hi : l[i]? = some (a, v)) : w.frozen? a = false :=
  (h.2 (a, v) (List.mem_of_getElem? hi)).2.2
theorem Kept.lt {W w : World} {l : List (Addr × Value)} (h : Kept W w l) (i : Nat) {a : Addr} {v : Value} (hi : l[i]? = some (a, v)) : a.block < w.heap.size :=
  (h.2 (a, v) (List.mem_of_getElem? hi)).1
end Go.Proofs.Ytcfcohnkkgickaa

/-! ### Held -/
namespace Go.Proofs.Ytcfcohnkkgickaa
open Go.RowKit

theorem Kept.below {W w : World} {l : List (Addr × Value)} (h : Kept W w l) : Below W.heap.size W w := h.1

theorem s2_start {W w : World} {a0 a1 : Addr} {v0 v1 : Value} {l : List (Addr × Value)} (h : Kept W w ((a0, v0) :: (a1, v1) :: l)) :
    w.drew.cell? a0 = some v0 ∧ w.drew.cell? a1 = some v1 ∧ Kept W w.drew ((a0, v0) :: (a1, v1) :: l) :=
  ⟨h.drew.get 0 rfl, h.drew.get 1 rfl, h.drew⟩
theorem s2_keep {W w w1 : World} {a0 a1 : Addr} {v0 v1 : Value} {l : List (Addr × Value)} (h : w.cell? a0 = some v0 ∧ w.cell? a1 = some v1 ∧ Kept W w ((a0, v0) :: (a1, v1) :: l)) (hb : Below w.heap.size w w1) :
    w1.cell? a0 = some v0 ∧ w1.cell? a1 = some v1 ∧ Kept W w1 ((a0, v0) :: (a1, v1) :: l) :=
  have k := h.2.2.step hb
  ⟨k.get 0 rfl, k.get 1 rfl, k⟩
theorem s4_start {W w : World} {a0 a1 a2 a3 : Addr} {v0 v1 v2 v3 : Value} {l : List (Addr × Value)} (h : Kept W w ((a0, v0) :: (a1, v1) :: (a2, v2) :: (a3, v3) :: l)) :
    w.drew.cell? a0 = some v0 ∧ w.drew.cell? a1 = some v1 ∧ w.drew.cell? a2 = some v2 ∧ w.drew.cell? a3 = some v3 ∧ Kept W w.drew ((a0, v0) :: (a1, v1) :: (a2, v2) :: (a3, v3) :: l) :=
  ⟨h.drew.get 0 rfl, h.drew.get 1 rfl, h.drew.get 2 rfl, h.drew.get 3 rfl, h.drew⟩
theorem s4_keep {W w w1 : World} {a0 a1 a2 a3 : Addr} {v0 v1 v2 v3 : Value} {l : List (Addr × Value)} (h : w.cell? a0 = some v0 ∧ w.cell? a1 = some v1 ∧ w.cell? a2 = some v2 ∧ w.cell? a3 = some v3 ∧ Kept W w ((a0, v0) :: (a1, v1) :: (a2, v2) :: (a3, v3) :: l)) (hb : Below w.heap.size w w1) :
    w1.cell? a0 = some v0 ∧ w1.cell? a1 = some v1 ∧ w1.cell? a2 = some v2 ∧ w1.cell? a3 = some v3 ∧ Kept W w1 ((a0, v0) :: (a1, v1) :: (a2, v2) :: (a3, v3) :: l) :=
  have k := h.2.2.2.2.step hb
  ⟨k.get 0 rfl, k.get 1 rfl, k.get 2 rfl, k.get 3 rfl, k⟩

theorem s6_start {W w : World} {a0 a1 a2 a3 a4 a5 : Addr} {v0 v1 v2 v3 v4 v5 : Value} {l : List (Addr × Value)} (h : Kept W w ((a0, v0) :: (a1, v1) :: (a2, v2) :: (a3, v3) :: (a4, v4) :: (a5, v5) :: l)) :
    w.drew.cell? a0 = some v0 ∧ w.drew.cell? a1 = some v1 ∧ w.drew.cell? a2 = some v2 ∧ w.drew.cell? a3 = some v3 ∧ w.drew.cell? a4 = some v4 ∧ w.drew.cell? a5 = some v5 ∧ Kept W w.drew ((a0, v0) :: (a1, v1) :: (a2, v2) :: (a3, v3) :: (a4, v4) :: (a5, v5) :: l) :=
  ⟨h.drew.get 0 rfl, h.drew.get 1 rfl, h.drew.get 2 rfl, h.drew.get 3 rfl, h.drew.get 4 rfl, h.drew.get 5 rfl, h.drew⟩
theorem s6_keep {W w w1 : World} {a0 a1 a2 a3 a4 a5 : Addr} {v0 v1 v2 v3 v4 v5 : Value} {l : List (Addr × Value)} (h : w.cell? a0 = some v0 ∧ w.cell? a1 = some v1 ∧ w.cell? a2 = some v2 ∧ w.cell? a3 = some v3 ∧ w.cell? a4 = some v4 ∧ w.cell? a5 = some v5 ∧ Kept W w ((a0, v0) :: (a1, v1) :: (a2, v2) :: (a3, v3) :: (a4, v4) :: (a5, v5) :: l)) (hb : Below w.heap.size w w1) :
    w1.cell? a0 = some v0 ∧ w1.cell? a1 = some v1 ∧ w1.cell? a2 = some v2 ∧ w1.cell? a3 = some v3 ∧ w1.cell? a4 = some v4 ∧ w1.cell? a5 = some v5 ∧ Kept W w1 ((a0, v0) :: (a1, v1) :: (a2, v2) :: (a3, v3) :: (a4, v4) :: (a5, v5) :: l) :=
  have k := h.2.2.2.2.2.2.step hb
  ⟨k.get 0 rfl, k.get 1 rfl, k.get 2 rfl, k.get 3 rfl, k.get 4 rfl, k.get 5 rfl, k⟩
theorem s8_start {W w : World} {a0 a1 a2 a3 a4 a5 a6 a7 : Addr} {v0 v1 v2 v3 v4 v5 v6 v7 : Value} {l : List (Addr × Value)} (h : Kept W w ((a0, v0) :: (a1, v1) :: (a2, v2) :: (a3, v3) :: (a4, v4) :: (a5, v5) :: (a6, v6) :: (a7, v7) :: l)) :
    w.drew.cell? a0 = some v0 ∧ w.drew.cell? a1 = some v1 ∧ w.drew.cell? a2 = some v2 ∧ w.drew.cell? a3 = some v3 ∧ w.drew.cell? a4 = some v4 ∧ w.drew.cell? a5 = some v5 ∧ w.drew.cell? a6 = some v6 ∧ w.drew.cell? a7 = some v7 ∧ Kept W w.drew ((a0, v0) :: (a1, v1) :: (a2, v2) :: (a3, v3) :: (a4, v4) :: (a5, v5) :: (a6, v6) :: (a7, v7) :: l) :=
  ⟨h.drew.get 0 rfl, h.drew.get 1 rfl, h.drew.get 2 rfl, h.drew.get 3 rfl, h.drew.get 4 rfl, h.drew.get 5 rfl, h.drew.get 6 rfl, h.drew.get 7 rfl, h.drew⟩
theorem s8_keep {W w w1 : World} {a0 a1 a2 a3 a4 a5 a6 a7 : Addr} {v0 v1 v2 v3 v4 v5 v6 v7 : Value} {l : List (Addr × Value)} (h : w.cell? a0 = some v0 ∧ w.cell? a1 = some v1 ∧ w.cell? a2 = some v2 ∧ w.cell? a3 = some v3 ∧ w.cell? a4 = some v4 ∧ w.cell? a5 = some v5 ∧ w.cell? a6 = some v6 ∧ w.cell? a7 = some v7 ∧ Kept W w ((a0, v0) :: (a1, v1) :: (a2, v2) :: (a3, v3) :: (a4, v4) :: (a5, v5) :: (a6, v6) :: (a7, v7) :: l)) (hb : Below w.heap.size w w1) :
    w1.cell? a0 = some v0 ∧ w1.cell? a1 = some v1 ∧ w1.cell? a2 = some v2 ∧ w1.cell? a3 = some v3 ∧ w1.cell? a4 = some v4 ∧ w1.cell? a5 = some v5 ∧ w1.cell? a6 = some v6 ∧ w1.cell? a7 = some v7 ∧ Kept W w1 ((a0, v0) :: (a1, v1) :: (a2, v2) :: (a3, v3) :: (a4, v4) :: (a5, v5) :: (a6, v6) :: (a7, v7) :: l) :=
  have k := h.2.2.2.2.2.2.2.2.step hb
  ⟨k.get 0 rfl, k.get 1 rfl, k.get 2 rfl, k.get 3 rfl, k.get 4 rfl, k.get 5 rfl, k.get 6 rfl, k.get 7 rfl, k⟩

theorem s4_re {W w : World} {B : Nat} {v0 v1 v2 v3 : Value} {o o' : Obj}
    (h : (w.alloc o).cell? ⟨B + 1, 0, none⟩ = some v0 ∧ (w.alloc o).cell? ⟨B + 1, 1, none⟩ = some v1 ∧ (w.alloc o).cell? ⟨B, 0, none⟩ = some v2 ∧ (w.alloc o).cell? ⟨B, 1, none⟩ = some v3 ∧ Kept W (w.alloc o) [(⟨B + 1, 0, none⟩, v0), (⟨B + 1, 1, none⟩, v1), (⟨B, 0, none⟩, v2), (⟨B, 1, none⟩, v3)])
    (hz : B + 1 < w.heap.size) (hW : W.heap.size ≤ w.heap.size) :
    (w.alloc o').cell? ⟨B + 1, 0, none⟩ = some v0 ∧ (w.alloc o').cell? ⟨B + 1, 1, none⟩ = some v1 ∧ (w.alloc o').cell? ⟨B, 0, none⟩ = some v2 ∧ (w.alloc o').cell? ⟨B, 1, none⟩ = some v3 ∧ Kept W (w.alloc o') [(⟨B + 1, 0, none⟩, v0), (⟨B + 1, 1, none⟩, v1), (⟨B, 0, none⟩, v2), (⟨B, 1, none⟩, v3)] := by
  have hb := (Below.refl w.heap.size w).alloc (Nat.le_refl _) o
  have hb' := (Below.refl w.heap.size w).alloc (Nat.le_refl _) o'
  have K := h.2.2.2.2
  have K' : Kept W w [(⟨B + 1, 0, none⟩, v0), (⟨B + 1, 1, none⟩, v1), (⟨B, 0, none⟩, v2), (⟨B, 1, none⟩, v3)] := by
    refine ⟨⟨K.1.os, K.1.tape, K.1.output, hW, fun j hj => ?_⟩, fun p hp => ?_⟩
    · rw [← K.1.block j hj, hb.block j (by omega)]
    · have hk := K.2 p hp
      have hl : p.1.block < w.heap.size := by
        simp only [List.mem_cons, List.not_mem_nil, or_false] at hp
        rcases hp with rfl | rfl | rfl | rfl <;> simp only <;> omega
      exact ⟨hl, by rw [← hb.cell hl]; exact hk.2.1, by rw [← hb.frozen hl]; exact hk.2.2⟩
  have k := K'.step hb'
  exact ⟨k.get 0 rfl, k.get 1 rfl, k.get 2 rfl, k.get 3 rfl, k⟩

/-- A store into a kept cell. -/
theorem Kept.set {W w : World} {a : Addr} {v : Value} {p q : List (Addr × Value)} (h : Kept W w (p ++ (a, v) :: q)) (u : Value) (hW : W.heap.size ≤ a.block) (hne : ∀ c ∈ p ++ q, c.1 ≠ a) : Kept W (w.setCell a u) (p ++ (a, u) :: q) := by
  have ha := h.2 (a, v) (by simp)
  refine ⟨h.1.setCell hW u, fun c hc => ?_⟩
  simp only [List.mem_append, List.mem_cons] at hc
  have hsz : (w.setCell a u).heap.size = w.heap.size := by simp
  have other : ∀ c ∈ p ++ q, c.1.block < (w.setCell a u).heap.size ∧ (w.setCell a u).cell? c.1 = some c.2 ∧ (w.setCell a u).frozen? c.1 = false := by
    intro c hc
    have hk := h.2 c (by simp only [List.mem_append, List.mem_cons] at hc ⊢; rcases hc with hc | hc <;> simp [hc])
    refine ⟨by rw [hsz]; exact hk.1, ?_, ?_⟩
    · rw [World.cell?_setCell_other (w := w) (a := a) (b := c.1) (v := u) (fun e => hne c hc e.symm)]; exact hk.2.1
    · rw [World.frozen?_setCell]; exact hk.2.2
  rcases hc with hc | rfl | hc
  · exact other c (by simp [hc])
  · refine ⟨by rw [hsz]; exact ha.1, ?_, by rw [World.frozen?_setCell]; exact ha.2.2⟩
    exact World.cell?_setCell_same (w := w) (a := a) (v := u) ha.2.1
  · exact other c (by simp [hc])

/-- Two stores into the two cells of a block that lies behind all others kept. -/
theorem Kept.set2 {W w : World} {g : Nat} {v0 v1 : Value} {l : List (Addr × Value)} (h : Kept W w ((⟨g, 0, none⟩, v0) :: (⟨g, 1, none⟩, v1) :: l)) (x y : Value) (hW : W.heap.size ≤ g) (hl : ∀ c ∈ l, c.1.block < g) :
    Kept W ((w.setCell ⟨g, 0, none⟩ x).setCell ⟨g, 1, none⟩ y) ((⟨g, 0, none⟩, x) :: (⟨g, 1, none⟩, y) :: l) := by
  have h1 := Kept.set (p := []) (q := (⟨g, 1, none⟩, v1) :: l) h x hW (by
    intro c hc
    simp only [List.nil_append, List.mem_cons] at hc
    rcases hc with rfl | hc
    · simp
    · intro e; have := hl c hc; rw [e] at this; simp at this)
  refine Kept.set (p := [(⟨g, 0, none⟩, x)]) (q := l) h1 y hW ?_
  intro c hc
  simp only [List.cons_append, List.nil_append, List.mem_cons] at hc
  rcases hc with rfl | hc
  · simp
  · intro e; have := hl c hc; rw [e] at this; simp at this

theorem Kept.cons {W w : World} {l : List (Addr × Value)} (h : Kept W w l) {a : Addr} {v : Value} (h1 : a.block < w.heap.size) (h2 : w.cell? a = some v) (h3 : w.frozen? a = false) : Kept W w ((a, v) :: l) :=
  ⟨h.1, fun p hp => by
    rcases List.mem_cons.1 hp with rfl | hp
    · exact ⟨h1, h2, h3⟩
    · exact h.2 p hp⟩

theorem cell_alloc_some {w : World} {a : Addr} {v : Value} (o : Obj) (h : w.cell? a = some v) : (w.alloc o).cell? a = some v := by
  rw [((Below.refl w.heap.size w).alloc (Nat.le_refl _) o).cell (World.block_lt_of_cell? w _ h)]; exact h
theorem cell_set2_some {w : World} {a : Addr} {v : Value} {g : Nat} (x y : Value) (h : w.cell? a = some v) (hne : a.block ≠ g) : ((w.setCell ⟨g, 0, none⟩ x).setCell ⟨g, 1, none⟩ y).cell? a = some v := by
  rw [World.cell?_setCell_other (w := w.setCell ⟨g, 0, none⟩ x) (a := ⟨g, 1, none⟩) (b := a) (v := y) (fun e => hne (by rw [← e])), World.cell?_setCell_other (w := w) (a := ⟨g, 0, none⟩) (b := a) (v := x) (fun e => hne (by rw [← e]))]
  exact h
/-- The loaded cells of two boxes behind an alloc, behind the store into the block that was made. -/
theorem c4_alloc {w : World} {a0 a1 a2 a3 : Addr} {v0 v1 v2 v3 : Value} {o : Obj} (h : w.cell? a0 = some v0 ∧ w.cell? a1 = some v1 ∧ w.cell? a2 = some v2 ∧ w.cell? a3 = some v3) :
    (w.alloc o).cell? a0 = some v0 ∧ (w.alloc o).cell? a1 = some v1 ∧ (w.alloc o).cell? a2 = some v2 ∧ (w.alloc o).cell? a3 = some v3 :=
  ⟨cell_alloc_some o h.1, cell_alloc_some o h.2.1, cell_alloc_some o h.2.2.1, cell_alloc_some o h.2.2.2⟩
theorem c4_set2 {w : World} {a0 a1 a2 a3 : Addr} {v0 v1 v2 v3 : Value} {g : Nat} {x y : Value} (h : w.cell? a0 = some v0 ∧ w.cell? a1 = some v1 ∧ w.cell? a2 = some v2 ∧ w.cell? a3 = some v3) (h0 : a0.block ≠ g) (h1 : a1.block ≠ g) (h2 : a2.block ≠ g) (h3 : a3.block ≠ g) :
    ((w.setCell ⟨g, 0, none⟩ x).setCell ⟨g, 1, none⟩ y).cell? a0 = some v0 ∧ ((w.setCell ⟨g, 0, none⟩ x).setCell ⟨g, 1, none⟩ y).cell? a1 = some v1 ∧ ((w.setCell ⟨g, 0, none⟩ x).setCell ⟨g, 1, none⟩ y).cell? a2 = some v2 ∧ ((w.setCell ⟨g, 0, none⟩ x).setCell ⟨g, 1, none⟩ y).cell? a3 = some v3 :=
  ⟨cell_set2_some x y h.1 h0, cell_set2_some x y h.2.1 h1, cell_set2_some x y h.2.2.1 h2, cell_set2_some x y h.2.2.2 h3⟩

theorem Kept.alloc4 {W w : World} {l : List (Addr × Value)} (h : Kept W w l) (x y u v : Value) (t : TypeId) (B : Nat) (hB : w.heap.size = B) :
    Kept W (w.alloc (.cells #[x, y, u, v] t)) ((⟨B, 0, none⟩, x) :: (⟨B, 1, none⟩, y) :: (⟨B, 2, none⟩, u) :: (⟨B, 3, none⟩, v) :: l) := by
  subst hB
  have h1 := h.step ((Below.refl w.heap.size w).alloc (Nat.le_refl _) (.cells #[x, y, u, v] t))
  refine ⟨h1.1, fun p hp => ?_⟩
  simp only [List.mem_cons] at hp
  rcases hp with rfl | rfl | rfl | rfl | hp
  · exact ⟨by simp, by go_simp, by go_simp⟩
  · exact ⟨by simp, by go_simp, by go_simp⟩
  · exact ⟨by simp, by go_simp, by go_simp⟩
  · exact ⟨by simp, by go_simp, by go_simp⟩
  · exact h1.2 p hp
end Go.Proofs.Ytcfcohnkkgickaa

/-! ### Held8 -/
namespace Go.Proofs.Ytcfcohnkkgickaa
open Go.RowKit

theorem cell_set4_some {w : World} {a : Addr} {v9 : Value} {g : Nat} (x y u v : Value) (h : w.cell? a = some v9) (hne : a.block ≠ g) : ((((w.setCell ⟨g, 0, none⟩ x).setCell ⟨g, 1, none⟩ y).setCell ⟨g, 2, none⟩ u).setCell ⟨g, 3, none⟩ v).cell? a = some v9 := by
  rw [World.cell?_setCell_other (w := (((w.setCell ⟨g, 0, none⟩ x).setCell ⟨g, 1, none⟩ y).setCell ⟨g, 2, none⟩ u)) (a := ⟨g, 3, none⟩) (b := a) (v := v) (fun e => hne (by rw [← e])), World.cell?_setCell_other (w := ((w.setCell ⟨g, 0, none⟩ x).setCell ⟨g, 1, none⟩ y)) (a := ⟨g, 2, none⟩) (b := a) (v := u) (fun e => hne (by rw [← e])), World.cell?_setCell_other (w := (w.setCell ⟨g, 0, none⟩ x)) (a := ⟨g, 1, none⟩) (b := a) (v := y) (fun e => hne (by rw [← e])), World.cell?_setCell_other (w := w) (a := ⟨g, 0, none⟩) (b := a) (v := x) (fun e => hne (by rw [← e]))]
  exact h
theorem c8_set4 {w : World} {a0 a1 a2 a3 a4 a5 a6 a7 : Addr} {v0 v1 v2 v3 v4 v5 v6 v7 x y u v : Value} {g : Nat} (h : w.cell? a0 = some v0 ∧ w.cell? a1 = some v1 ∧ w.cell? a2 = some v2 ∧ w.cell? a3 = some v3 ∧ w.cell? a4 = some v4 ∧ w.cell? a5 = some v5 ∧ w.cell? a6 = some v6 ∧ w.cell? a7 = some v7) (h0 : a0.block ≠ g) (h1 : a1.block ≠ g) (h2 : a2.block ≠ g) (h3 : a3.block ≠ g) (h4 : a4.block ≠ g) (h5 : a5.block ≠ g) (h6 : a6.block ≠ g) (h7 : a7.block ≠ g) :
    ((((w.setCell ⟨g, 0, none⟩ x).setCell ⟨g, 1, none⟩ y).setCell ⟨g, 2, none⟩ u).setCell ⟨g, 3, none⟩ v).cell? a0 = some v0 ∧ ((((w.setCell ⟨g, 0, none⟩ x).setCell ⟨g, 1, none⟩ y).setCell ⟨g, 2, none⟩ u).setCell ⟨g, 3, none⟩ v).cell? a1 = some v1 ∧ ((((w.setCell ⟨g, 0, none⟩ x).setCell ⟨g, 1, none⟩ y).setCell ⟨g, 2, none⟩ u).setCell ⟨g, 3, none⟩ v).cell? a2 = some v2 ∧ ((((w.setCell ⟨g, 0, none⟩ x).setCell ⟨g, 1, none⟩ y).setCell ⟨g, 2, none⟩ u).setCell ⟨g, 3, none⟩ v).cell? a3 = some v3 ∧ ((((w.setCell ⟨g, 0, none⟩ x).setCell ⟨g, 1, none⟩ y).setCell ⟨g, 2, none⟩ u).setCell ⟨g, 3, none⟩ v).cell? a4 = some v4 ∧ ((((w.setCell ⟨g, 0, none⟩ x).setCell ⟨g, 1, none⟩ y).setCell ⟨g, 2, none⟩ u).setCell ⟨g, 3, none⟩ v).cell? a5 = some v5 ∧ ((((w.setCell ⟨g, 0, none⟩ x).setCell ⟨g, 1, none⟩ y).setCell ⟨g, 2, none⟩ u).setCell ⟨g, 3, none⟩ v).cell? a6 = some v6 ∧ ((((w.setCell ⟨g, 0, none⟩ x).setCell ⟨g, 1, none⟩ y).setCell ⟨g, 2, none⟩ u).setCell ⟨g, 3, none⟩ v).cell? a7 = some v7 :=
  ⟨cell_set4_some x y u v h.1 h0, cell_set4_some x y u v h.2.1 h1, cell_set4_some x y u v h.2.2.1 h2, cell_set4_some x y u v h.2.2.2.1 h3, cell_set4_some x y u v h.2.2.2.2.1 h4, cell_set4_some x y u v h.2.2.2.2.2.1 h5, cell_set4_some x y u v h.2.2.2.2.2.2.1 h6, cell_set4_some x y u v h.2.2.2.2.2.2.2 h7⟩
theorem c8_alloc {w : World} {a0 a1 a2 a3 a4 a5 a6 a7 : Addr} {v0 v1 v2 v3 v4 v5 v6 v7 : Value} {o : Obj} (h : w.cell? a0 = some v0 ∧ w.cell? a1 = some v1 ∧ w.cell? a2 = some v2 ∧ w.cell? a3 = some v3 ∧ w.cell? a4 = some v4 ∧ w.cell? a5 = some v5 ∧ w.cell? a6 = some v6 ∧ w.cell? a7 = some v7) :
    (w.alloc o).cell? a0 = some v0 ∧ (w.alloc o).cell? a1 = some v1 ∧ (w.alloc o).cell? a2 = some v2 ∧ (w.alloc o).cell? a3 = some v3 ∧ (w.alloc o).cell? a4 = some v4 ∧ (w.alloc o).cell? a5 = some v5 ∧ (w.alloc o).cell? a6 = some v6 ∧ (w.alloc o).cell? a7 = some v7 :=
  ⟨cell_alloc_some o h.1, cell_alloc_some o h.2.1, cell_alloc_some o h.2.2.1, cell_alloc_some o h.2.2.2.1, cell_alloc_some o h.2.2.2.2.1, cell_alloc_some o h.2.2.2.2.2.1, cell_alloc_some o h.2.2.2.2.2.2.1, cell_alloc_some o h.2.2.2.2.2.2.2⟩

theorem c8_adrew {w : World} {a0 a1 a2 a3 a4 a5 a6 a7 : Addr} {v0 v1 v2 v3 v4 v5 v6 v7 : Value} {o : Obj} (h : w.cell? a0 = some v0 ∧ w.cell? a1 = some v1 ∧ w.cell? a2 = some v2 ∧ w.cell? a3 = some v3 ∧ w.cell? a4 = some v4 ∧ w.cell? a5 = some v5 ∧ w.cell? a6 = some v6 ∧ w.cell? a7 = some v7) :
    (w.alloc o).drew.cell? a0 = some v0 ∧ (w.alloc o).drew.cell? a1 = some v1 ∧ (w.alloc o).drew.cell? a2 = some v2 ∧ (w.alloc o).drew.cell? a3 = some v3 ∧ (w.alloc o).drew.cell? a4 = some v4 ∧ (w.alloc o).drew.cell? a5 = some v5 ∧ (w.alloc o).drew.cell? a6 = some v6 ∧ (w.alloc o).drew.cell? a7 = some v7 := c8_alloc h

/-- Four stores into the four cells of a block that lies behind all others kept. -/
theorem Kept.set4 {W w : World} {g : Nat} {v0 v1 v2 v3 : Value} {l : List (Addr × Value)} (h : Kept W w ((⟨g, 0, none⟩, v0) :: (⟨g, 1, none⟩, v1) :: (⟨g, 2, none⟩, v2) :: (⟨g, 3, none⟩, v3) :: l)) (x y u v : Value) (hW : W.heap.size ≤ g) (hl : ∀ c ∈ l, c.1.block < g) :
    Kept W ((((w.setCell ⟨g, 0, none⟩ x).setCell ⟨g, 1, none⟩ y).setCell ⟨g, 2, none⟩ u).setCell ⟨g, 3, none⟩ v) ((⟨g, 0, none⟩, x) :: (⟨g, 1, none⟩, y) :: (⟨g, 2, none⟩, u) :: (⟨g, 3, none⟩, v) :: l) := by
  have hl' : ∀ j, ∀ c ∈ l, c.1 ≠ ⟨g, j, none⟩ := fun j c hc e => by have := hl c hc; rw [e] at this; simp at this
  have h1 := Kept.set (p := []) h x hW (by
    intro c hc
    simp only [List.nil_append, List.mem_cons] at hc
    rcases hc with rfl | rfl | rfl | hc
    · simp
    · simp
    · simp
    · exact hl' 0 c hc)
  have h2 := Kept.set (p := [(⟨g, 0, none⟩, x)]) h1 y hW (by
    intro c hc
    simp only [List.cons_append, List.nil_append, List.mem_cons] at hc
    rcases hc with rfl | rfl | rfl | hc
    · simp
    · simp
    · simp
    · exact hl' 1 c hc)
  have h3 := Kept.set (p := [(⟨g, 0, none⟩, x), (⟨g, 1, none⟩, y)]) h2 u hW (by
    intro c hc
    simp only [List.cons_append, List.nil_append, List.mem_cons] at hc
    rcases hc with rfl | rfl | rfl | hc
    · simp
    · simp
    · simp
    · exact hl' 2 c hc)
  exact Kept.set (p := [(⟨g, 0, none⟩, x), (⟨g, 1, none⟩, y), (⟨g, 2, none⟩, u)]) h3 v hW (by
    intro c hc
    simp only [List.cons_append, List.nil_append, List.mem_cons] at hc
    rcases hc with rfl | rfl | rfl | hc
    · simp
    · simp
    · simp
    · exact hl' 3 c hc)
end Go.Proofs.Ytcfcohnkkgickaa

/-! ### Held20 -/
namespace Go.Proofs.Ytcfcohnkkgickaa
open Go.RowKit

/-- In a region that draws its order: an operation whose guard says no is taken first, and leaves nothing. -/
theorem held_skip {P : Program} {ops : Array Oper} {Q : Exit → Act → World → Prop} {md : Region.Mode} {S : World → Prop} {i : Nat} {oi : Oper} {fuel : Nat} {listed : Array Bool} {a : Act} {w : World} (hi : ops[i]? = some oi)
    (hs : Region.noSelect ops = true) (hf : Region.free md ops listed i = true) (hr : (Region.ready md ops listed).contains i = true)
    (hQ : ∀ c a w, Q (.panic c) (a.put oi.dst undef) w → Q (.panic c) a w) (hw : Region.wanted oi (yielded ops a.tmps) = false) (hS : S w)
    (h : wpAnyH P md ops Q S fuel (listed.setIfInBounds i true) (a.put oi.dst undef) w) : wpAnyH P md ops Q S (fuel + 1) listed a w :=
  wpAnyH_take hi hs hf hr hQ (Or.inr ⟨hw, rfl⟩) hS h

/-- A part of what is kept. -/
theorem Kept.sub {W w : World} {l l' : List (Addr × Value)} (h : Kept W w l) (hs : ∀ p ∈ l', p ∈ l) : Kept W w l' := ⟨h.1, fun p hp => h.2 p (hs p hp)⟩

theorem s12_start {W w : World} {a0 a1 a2 a3 a4 a5 a6 a7 a8 a9 a10 a11 : Addr} {v0 v1 v2 v3 v4 v5 v6 v7 v8 v9 v10 v11 : Value} {l : List (Addr × Value)} (h : Kept W w ((a0, v0) :: (a1, v1) :: (a2, v2) :: (a3, v3) :: (a4, v4) :: (a5, v5) :: (a6, v6) :: (a7, v7) :: (a8, v8) :: (a9, v9) :: (a10, v10) :: (a11, v11) :: l)) :
    w.drew.cell? a0 = some v0 ∧ w.drew.cell? a1 = some v1 ∧ w.drew.cell? a2 = some v2 ∧ w.drew.cell? a3 = some v3 ∧ w.drew.cell? a4 = some v4 ∧ w.drew.cell? a5 = some v5 ∧ w.drew.cell? a6 = some v6 ∧ w.drew.cell? a7 = some v7 ∧ w.drew.cell? a8 = some v8 ∧ w.drew.cell? a9 = some v9 ∧ w.drew.cell? a10 = some v10 ∧ w.drew.cell? a11 = some v11 ∧ Kept W w.drew ((a0, v0) :: (a1, v1) :: (a2, v2) :: (a3, v3) :: (a4, v4) :: (a5, v5) :: (a6, v6) :: (a7, v7) :: (a8, v8) :: (a9, v9) :: (a10, v10) :: (a11, v11) :: l) :=
  ⟨h.drew.get 0 rfl, h.drew.get 1 rfl, h.drew.get 2 rfl, h.drew.get 3 rfl, h.drew.get 4 rfl, h.drew.get 5 rfl, h.drew.get 6 rfl, h.drew.get 7 rfl, h.drew.get 8 rfl, h.drew.get 9 rfl, h.drew.get 10 rfl, h.drew.get 11 rfl, h.drew⟩
theorem s12_keep {W w w1 : World} {a0 a1 a2 a3 a4 a5 a6 a7 a8 a9 a10 a11 : Addr} {v0 v1 v2 v3 v4 v5 v6 v7 v8 v9 v10 v11 : Value} {l : List (Addr × Value)} (h : w.cell? a0 = some v0 ∧ w.cell? a1 = some v1 ∧ w.cell? a2 = some v2 ∧ w.cell? a3 = some v3 ∧ w.cell? a4 = some v4 ∧ w.cell? a5 = some v5 ∧ w.cell? a6 = some v6 ∧ w.cell? a7 = some v7 ∧ w.cell? a8 = some v8 ∧ w.cell? a9 = some v9 ∧ w.cell? a10 = some v10 ∧ w.cell? a11 = some v11 ∧ Kept W w ((a0, v0) :: (a1, v1) :: (a2, v2) :: (a3, v3) :: (a4, v4) :: (a5, v5) :: (a6, v6) :: (a7, v7) :: (a8, v8) :: (a9, v9) :: (a10, v10) :: (a11, v11) :: l)) (hb : Below w.heap.size w w1) :
    w1.cell? a0 = some v0 ∧ w1.cell? a1 = some v1 ∧ w1.cell? a2 = some v2 ∧ w1.cell? a3 = some v3 ∧ w1.cell? a4 = some v4 ∧ w1.cell? a5 = some v5 ∧ w1.cell? a6 = some v6 ∧ w1.cell? a7 = some v7 ∧ w1.cell? a8 = some v8 ∧ w1.cell? a9 = some v9 ∧ w1.cell? a10 = some v10 ∧ w1.cell? a11 = some v11 ∧ Kept W w1 ((a0, v0) :: (a1, v1) :: (a2, v2) :: (a3, v3) :: (a4, v4) :: (a5, v5) :: (a6, v6) :: (a7, v7) :: (a8, v8) :: (a9, v9) :: (a10, v10) :: (a11, v11) :: l) :=
  have k := h.2.2.2.2.2.2.2.2.2.2.2.2.step hb
  ⟨k.get 0 rfl, k.get 1 rfl, k.get 2 rfl, k.get 3 rfl, k.get 4 rfl, k.get 5 rfl, k.get 6 rfl, k.get 7 rfl, k.get 8 rfl, k.get 9 rfl, k.get 10 rfl, k.get 11 rfl, k⟩
theorem s14_start {W w : World} {a0 a1 a2 a3 a4 a5 a6 a7 a8 a9 a10 a11 a12 a13 : Addr} {v0 v1 v2 v3 v4 v5 v6 v7 v8 v9 v10 v11 v12 v13 : Value} {l : List (Addr × Value)} (h : Kept W w ((a0, v0) :: (a1, v1) :: (a2, v2) :: (a3, v3) :: (a4, v4) :: (a5, v5) :: (a6, v6) :: (a7, v7) :: (a8, v8) :: (a9, v9) :: (a10, v10) :: (a11, v11) :: (a12, v12) :: (a13, v13) :: l)) :
    w.drew.cell? a0 = some v0 ∧ w.drew.cell? a1 = some v1 ∧ w.drew.cell? a2 = some v2 ∧ w.drew.cell? a3 = some v3 ∧ w.drew.cell? a4 = some v4 ∧ w.drew.cell? a5 = some v5 ∧ w.drew.cell? a6 = some v6 ∧ w.drew.cell? a7 = some v7 ∧ w.drew.cell? a8 = some v8 ∧ w.drew.cell? a9 = some v9 ∧ w.drew.cell? a10 = some v10 ∧ w.drew.cell? a11 = some v11 ∧ w.drew.cell? a12 = some v12 ∧ w.drew.cell? a13 = some v13 ∧ Kept W w.drew ((a0, v0) :: (a1, v1) :: (a2, v2) :: (a3, v3) :: (a4, v4) :: (a5, v5) :: (a6, v6) :: (a7, v7) :: (a8, v8) :: (a9, v9) :: (a10, v10) :: (a11, v11) :: (a12, v12) :: (a13, v13) :: l) :=
  ⟨h.drew.get 0 rfl, h.drew.get 1 rfl, h.drew.get 2 rfl, h.drew.get 3 rfl, h.drew.get 4 rfl, h.drew.get 5 rfl, h.drew.get 6 rfl, h.drew.get 7 rfl, h.drew.get 8 rfl, h.drew.get 9 rfl, h.drew.get 10 rfl, h.drew.get 11 rfl, h.drew.get 12 rfl, h.drew.get 13 rfl, h.drew⟩
theorem s14_keep {W w w1 : World} {a0 a1 a2 a3 a4 a5 a6 a7 a8 a9 a10 a11 a12 a13 : Addr} {v0 v1 v2 v3 v4 v5 v6 v7 v8 v9 v10 v11 v12 v13 : Value} {l : List (Addr × Value)} (h : w.cell? a0 = some v0 ∧ w.cell? a1 = some v1 ∧ w.cell? a2 = some v2 ∧ w.cell? a3 = some v3 ∧ w.cell? a4 = some v4 ∧ w.cell? a5 = some v5 ∧ w.cell? a6 = some v6 ∧ w.cell? a7 = some v7 ∧ w.cell? a8 = some v8 ∧ w.cell? a9 = some v9 ∧ w.cell? a10 = some v10 ∧ w.cell? a11 = some v11 ∧ w.cell? a12 = some v12 ∧ w.cell? a13 = some v13 ∧ Kept W w ((a0, v0) :: (a1, v1) :: (a2, v2) :: (a3, v3) :: (a4, v4) :: (a5, v5) :: (a6, v6) :: (a7, v7) :: (a8, v8) :: (a9, v9) :: (a10, v10) :: (a11, v11) :: (a12, v12) :: (a13, v13) :: l)) (hb : Below w.heap.size w w1) :
    w1.cell? a0 = some v0 ∧ w1.cell? a1 = some v1 ∧ w1.cell? a2 = some v2 ∧ w1.cell? a3 = some v3 ∧ w1.cell? a4 = some v4 ∧ w1.cell? a5 = some v5 ∧ w1.cell? a6 = some v6 ∧ w1.cell? a7 = some v7 ∧ w1.cell? a8 = some v8 ∧ w1.cell? a9 = some v9 ∧ w1.cell? a10 = some v10 ∧ w1.cell? a11 = some v11 ∧ w1.cell? a12 = some v12 ∧ w1.cell? a13 = some v13 ∧ Kept W w1 ((a0, v0) :: (a1, v1) :: (a2, v2) :: (a3, v3) :: (a4, v4) :: (a5, v5) :: (a6, v6) :: (a7, v7) :: (a8, v8) :: (a9, v9) :: (a10, v10) :: (a11, v11) :: (a12, v12) :: (a13, v13) :: l) :=
  have k := h.2.2.2.2.2.2.2.2.2.2.2.2.2.2.step hb
  ⟨k.get 0 rfl, k.get 1 rfl, k.get 2 rfl, k.get 3 rfl, k.get 4 rfl, k.get 5 rfl, k.get 6 rfl, k.get 7 rfl, k.get 8 rfl, k.get 9 rfl, k.get 10 rfl, k.get 11 rfl, k.get 12 rfl, k.get 13 rfl, k⟩
theorem s20_start {W w : World} {a0 a1 a2 a3 a4 a5 a6 a7 a8 a9 a10 a11 a12 a13 a14 a15 a16 a17 a18 a19 : Addr} {v0 v1 v2 v3 v4 v5 v6 v7 v8 v9 v10 v11 v12 v13 v14 v15 v16 v17 v18 v19 : Value} {l : List (Addr × Value)} (h : Kept W w ((a0, v0) :: (a1, v1) :: (a2, v2) :: (a3, v3) :: (a4, v4) :: (a5, v5) :: (a6, v6) :: (a7, v7) :: (a8, v8) :: (a9, v9) :: (a10, v10) :: (a11, v11) :: (a12, v12) :: (a13, v13) :: (a14, v14) :: (a15, v15) :: (a16, v16) :: (a17, v17) :: (a18, v18) :: (a19, v19) :: l)) :
    w.drew.cell? a0 = some v0 ∧ w.drew.cell? a1 = some v1 ∧ w.drew.cell? a2 = some v2 ∧ w.drew.cell? a3 = some v3 ∧ w.drew.cell? a4 = some v4 ∧ w.drew.cell? a5 = some v5 ∧ w.drew.cell? a6 = some v6 ∧ w.drew.cell? a7 = some v7 ∧ w.drew.cell? a8 = some v8 ∧ w.drew.cell? a9 = some v9 ∧ w.drew.cell? a10 = some v10 ∧ w.drew.cell? a11 = some v11 ∧ w.drew.cell? a12 = some v12 ∧ w.drew.cell? a13 = some v13 ∧ w.drew.cell? a14 = some v14 ∧ w.drew.cell? a15 = some v15 ∧ w.drew.cell? a16 = some v16 ∧ w.drew.cell? a17 = some v17 ∧ w.drew.cell? a18 = some v18 ∧ w.drew.cell? a19 = some v19 ∧ Kept W w.drew ((a0, v0) :: (a1, v1) :: (a2, v2) :: (a3, v3) :: (a4, v4) :: (a5, v5) :: (a6, v6) :: (a7, v7) :: (a8, v8) :: (a9, v9) :: (a10, v10) :: (a11, v11) :: (a12, v12) :: (a13, v13) :: (a14, v14) :: (a15, v15) :: (a16, v16) :: (a17, v17) :: (a18, v18) :: (a19, v19) :: l) :=
  ⟨h.drew.get 0 rfl, h.drew.get 1 rfl, h.drew.get 2 rfl, h.drew.get 3 rfl, h.drew.get 4 rfl, h.drew.get 5 rfl, h.drew.get 6 rfl, h.drew.get 7 rfl, h.drew.get 8 rfl, h.drew.get 9 rfl, h.drew.get 10 rfl, h.drew.get 11 rfl, h.drew.get 12 rfl, h.drew.get 13 rfl, h.drew.get 14 rfl, h.drew.get 15 rfl, h.drew.get 16 rfl, h.drew.get 17 rfl, h.drew.get 18 rfl, h.drew.get 19 rfl, h.drew⟩
theorem s20_keep {W w w1 : World} {a0 a1 a2 a3 a4 a5 a6 a7 a8 a9 a10 a11 a12 a13 a14 a15 a16 a17 a18 a19 : Addr} {v0 v1 v2 v3 v4 v5 v6 v7 v8 v9 v10 v11 v12 v13 v14 v15 v16 v17 v18 v19 : Value} {l : List (Addr × Value)} (h : w.cell? a0 = some v0 ∧ w.cell? a1 = some v1 ∧ w.cell? a2 = some v2 ∧ w.cell? a3 = some v3 ∧ w.cell? a4 = some v4 ∧ w.cell? a5 = some v5 ∧ w.cell? a6 = some v6 ∧ w.cell? a7 = some v7 ∧ w.cell? a8 = some v8 ∧ w.cell? a9 = some v9 ∧ w.cell? a10 = some v10 ∧ w.cell? a11 = some v11 ∧ w.cell? a12 = some v12 ∧ w.cell? a13 = some v13 ∧ w.cell? a14 = some v14 ∧ w.cell? a15 = some v15 ∧ w.cell? a16 = some v16 ∧ w.cell? a17 = some v17 ∧ w.cell? a18 = some v18 ∧ w.cell? a19 = some v19 ∧ Kept W w ((a0, v0) :: (a1, v1) :: (a2, v2) :: (a3, v3) :: (a4, v4) :: (a5, v5) :: (a6, v6) :: (a7, v7) :: (a8, v8) :: (a9, v9) :: (a10, v10) :: (a11, v11) :: (a12, v12) :: (a13, v13) :: (a14, v14) :: (a15, v15) :: (a16, v16) :: (a17, v17) :: (a18, v18) :: (a19, v19) :: l)) (hb : Below w.heap.size w w1) :
    w1.cell? a0 = some v0 ∧ w1.cell? a1 = some v1 ∧ w1.cell? a2 = some v2 ∧ w1.cell? a3 = some v3 ∧ w1.cell? a4 = some v4 ∧ w1.cell? a5 = some v5 ∧ w1.cell? a6 = some v6 ∧ w1.cell? a7 = some v7 ∧ w1.cell? a8 = some v8 ∧ w1.cell? a9 = some v9 ∧ w1.cell? a10 = some v10 ∧ w1.cell? a11 = some v11 ∧ w1.cell? a12 = some v12 ∧ w1.cell? a13 = some v13 ∧ w1.cell? a14 = some v14 ∧ w1.cell? a15 = some v15 ∧ w1.cell? a16 = some v16 ∧ w1.cell? a17 = some v17 ∧ w1.cell? a18 = some v18 ∧ w1.cell? a19 = some v19 ∧ Kept W w1 ((a0, v0) :: (a1, v1) :: (a2, v2) :: (a3, v3) :: (a4, v4) :: (a5, v5) :: (a6, v6) :: (a7, v7) :: (a8, v8) :: (a9, v9) :: (a10, v10) :: (a11, v11) :: (a12, v12) :: (a13, v13) :: (a14, v14) :: (a15, v15) :: (a16, v16) :: (a17, v17) :: (a18, v18) :: (a19, v19) :: l) :=
  have k := h.2.2.2.2.2.2.2.2.2.2.2.2.2.2.2.2.2.2.2.2.step hb
  ⟨k.get 0 rfl, k.get 1 rfl, k.get 2 rfl, k.get 3 rfl, k.get 4 rfl, k.get 5 rfl, k.get 6 rfl, k.get 7 rfl, k.get 8 rfl, k.get 9 rfl, k.get 10 rfl, k.get 11 rfl, k.get 12 rfl, k.get 13 rfl, k.get 14 rfl, k.get 15 rfl, k.get 16 rfl, k.get 17 rfl, k.get 18 rfl, k.get 19 rfl, k⟩
end Go.Proofs.Ytcfcohnkkgickaa

namespace Go.Proofs.Ytcfcohnkkgickaa
open Go.RowKit Num

theorem Kept.alloc5 {W w : World} {l : List (Addr × Value)} (h : Kept W w l) (x y u v z : Value) (t : TypeId) (B : Nat) (hB : w.heap.size = B) :
    Kept W (w.alloc (.cells #[x, y, u, v, z] t)) ((⟨B, 0, none⟩, x) :: (⟨B, 1, none⟩, y) :: (⟨B, 2, none⟩, u) :: (⟨B, 3, none⟩, v) :: (⟨B, 4, none⟩, z) :: l) := by
  subst hB
  have h1 := h.step ((Below.refl w.heap.size w).alloc (Nat.le_refl _) (.cells #[x, y, u, v, z] t))
  refine ⟨h1.1, fun p hp => ?_⟩
  simp only [List.mem_cons] at hp
  rcases hp with rfl | rfl | rfl | rfl | rfl | hp
  · exact ⟨by simp, by go_simp, by go_simp⟩
  · exact ⟨by simp, by go_simp, by go_simp⟩
  · exact ⟨by simp, by go_simp, by go_simp⟩
  · exact ⟨by simp, by go_simp, by go_simp⟩
  · exact ⟨by simp, by go_simp, by go_simp⟩
  · exact h1.2 p hp

/-- A range test by its Bool. -/
theorem l1In_b (n lo hi : Int) (w : World) : Calls Try.prog 98 #[.int .i64 n, .int .i64 lo, .int .i64 hi] w fun e w' => e = .returned (.bool (decide (lo ≤ n ∧ n ≤ hi))) ∧ w = w' := by
  by_cases h : lo ≤ n ∧ n ≤ hi
  · rw [decide_eq_true h]; exact l1In_yes n lo hi w h.1 h.2
  · rw [decide_eq_false h]; exact l1In_no n lo hi w (by omega)

set_option maxRecDepth 8000 in
set_option maxHeartbeats 3200000 in
theorem spec_rv (i g y x : Int) (nl : Bool) (w : World) :
    Calls Try.prog 33 #[.agg #[.int .i64 i, .int .i64 g, .int .i64 y, .int .i64 x, .bool nl]] w fun r9 w' => r9 = .returned (.bool (rowB i g y x nl)) ∧ Below w.heap.size w w' := by
  have D1 := fun w => l1In_b i 1 99 w
  have D2 := fun w => l1In_b g 0 3 w
  have D3 := fun w => l1In_b y 0 8 w
  have D4 := fun w => l1In_b x (-99) 99 w
  have E0 : rowB i g y x nl = (decide (1 ≤ i ∧ i ≤ 99) && (decide (0 ≤ g ∧ g ≤ 3) && (decide (0 ≤ y ∧ y ≤ 8) && (decide (-99 ≤ x ∧ x ≤ 99) && (!nl || decide (x = 0)))))) := rfl
  obtain ⟨q1, hq1⟩ : ∃ q, q = decide (1 ≤ i ∧ i ≤ 99) := ⟨_, rfl⟩
  rw [← hq1] at D1 E0
  have DD1 := Lib.hid D1
  clear D1 hq1
  obtain ⟨q2, hq2⟩ : ∃ q, q = decide (0 ≤ g ∧ g ≤ 3) := ⟨_, rfl⟩
  rw [← hq2] at D2 E0
  have DD2 := Lib.hid D2
  clear D2 hq2
  obtain ⟨q3, hq3⟩ : ∃ q, q = decide (0 ≤ y ∧ y ≤ 8) := ⟨_, rfl⟩
  rw [← hq3] at D3 E0
  have DD3 := Lib.hid D3
  clear D3 hq3
  obtain ⟨q4, hq4⟩ : ∃ q, q = decide (-99 ≤ x ∧ x ≤ 99) := ⟨_, rfl⟩
  rw [← hq4] at D4 E0
  have DD4 := Lib.hid D4
  clear D4 hq4
  cases q1
  · have E := Lib.hid E0
    clear E0
    go_enter Try.func33, Try.ntmps33
    go_wp2_with fail
    have K0 := (Kept.start w).alloc5 (.int .i64 i) (.int .i64 g) (.int .i64 y) (.int .i64 x) (.bool nl) 36 _ rfl
    have k0 := K0.get 0 rfl
    have k1 := K0.get 1 rfl
    have k2 := K0.get 2 rfl
    have k3 := K0.get 3 rfl
    have k4 := K0.get 4 rfl
    refine (DD1.out _).mono ?_
    rintro r9 w1 ⟨rfl, rfl⟩
    go_wp2
    go_ret
    exact ⟨by rw [E.out]; rfl, K0.1⟩
  · cases q2
    · have E := Lib.hid E0
      clear E0
      go_enter Try.func33, Try.ntmps33
      go_wp2_with fail
      have K0 := (Kept.start w).alloc5 (.int .i64 i) (.int .i64 g) (.int .i64 y) (.int .i64 x) (.bool nl) 36 _ rfl
      have k0 := K0.get 0 rfl
      have k1 := K0.get 1 rfl
      have k2 := K0.get 2 rfl
      have k3 := K0.get 3 rfl
      have k4 := K0.get 4 rfl
      refine (DD1.out _).mono ?_
      rintro r9 w1 ⟨rfl, rfl⟩
      go_wp2_with fail
      refine (DD2.out _).mono ?_
      rintro r9 w2 ⟨rfl, rfl⟩
      go_wp2
      go_ret
      exact ⟨by rw [E.out]; rfl, K0.1⟩
    · cases q3
      · have E := Lib.hid E0
        clear E0
        go_enter Try.func33, Try.ntmps33
        go_wp2_with fail
        have K0 := (Kept.start w).alloc5 (.int .i64 i) (.int .i64 g) (.int .i64 y) (.int .i64 x) (.bool nl) 36 _ rfl
        have k0 := K0.get 0 rfl
        have k1 := K0.get 1 rfl
        have k2 := K0.get 2 rfl
        have k3 := K0.get 3 rfl
        have k4 := K0.get 4 rfl
        refine (DD1.out _).mono ?_
        rintro r9 w1 ⟨rfl, rfl⟩
        go_wp2_with fail
        refine (DD2.out _).mono ?_
        rintro r9 w2 ⟨rfl, rfl⟩
        go_wp2_with fail
        refine (DD3.out _).mono ?_
        rintro r9 w3 ⟨rfl, rfl⟩
        go_wp2
        go_ret
        exact ⟨by rw [E.out]; rfl, K0.1⟩
      · cases q4
        · have E := Lib.hid E0
          clear E0
          go_enter Try.func33, Try.ntmps33
          go_wp2_with fail
          have K0 := (Kept.start w).alloc5 (.int .i64 i) (.int .i64 g) (.int .i64 y) (.int .i64 x) (.bool nl) 36 _ rfl
          have k0 := K0.get 0 rfl
          have k1 := K0.get 1 rfl
          have k2 := K0.get 2 rfl
          have k3 := K0.get 3 rfl
          have k4 := K0.get 4 rfl
          refine (DD1.out _).mono ?_
          rintro r9 w1 ⟨rfl, rfl⟩
          go_wp2_with fail
          refine (DD2.out _).mono ?_
          rintro r9 w2 ⟨rfl, rfl⟩
          go_wp2_with fail
          refine (DD3.out _).mono ?_
          rintro r9 w3 ⟨rfl, rfl⟩
          go_wp2_with fail
          refine (DD4.out _).mono ?_
          rintro r9 w4 ⟨rfl, rfl⟩
          go_wp2
          go_ret
          exact ⟨by rw [E.out]; rfl, K0.1⟩
        · cases nl
          · have E := Lib.hid E0
            clear E0
            go_enter Try.func33, Try.ntmps33
            go_wp2_with fail
            have K0 := (Kept.start w).alloc5 (.int .i64 i) (.int .i64 g) (.int .i64 y) (.int .i64 x) (.bool false) 36 _ rfl
            have k0 := K0.get 0 rfl
            have k1 := K0.get 1 rfl
            have k2 := K0.get 2 rfl
            have k3 := K0.get 3 rfl
            have k4 := K0.get 4 rfl
            refine (DD1.out _).mono ?_
            rintro r9 w1 ⟨rfl, rfl⟩
            go_wp2_with fail
            refine (DD2.out _).mono ?_
            rintro r9 w2 ⟨rfl, rfl⟩
            go_wp2_with fail
            refine (DD3.out _).mono ?_
            rintro r9 w3 ⟨rfl, rfl⟩
            go_wp2_with fail
            refine (DD4.out _).mono ?_
            rintro r9 w4 ⟨rfl, rfl⟩
            go_wp2
            go_ret
            exact ⟨by rw [E.out]; rfl, K0.1⟩
          · by_cases hx : x = 0
            · subst hx
              have E := Lib.hid E0
              clear E0
              go_enter Try.func33, Try.ntmps33
              go_wp2_with fail
              have K0 := (Kept.start w).alloc5 (.int .i64 i) (.int .i64 g) (.int .i64 y) (.int .i64 0) (.bool true) 36 _ rfl
              have k0 := K0.get 0 rfl
              have k1 := K0.get 1 rfl
              have k2 := K0.get 2 rfl
              have k3 := K0.get 3 rfl
              have k4 := K0.get 4 rfl
              refine (DD1.out _).mono ?_
              rintro r9 w1 ⟨rfl, rfl⟩
              go_wp2_with fail
              refine (DD2.out _).mono ?_
              rintro r9 w2 ⟨rfl, rfl⟩
              go_wp2_with fail
              refine (DD3.out _).mono ?_
              rintro r9 w3 ⟨rfl, rfl⟩
              go_wp2_with fail
              refine (DD4.out _).mono ?_
              rintro r9 w4 ⟨rfl, rfl⟩
              go_wp2
              go_ret
              exact ⟨by rw [E.out]; rfl, K0.1⟩
            · rw [decide_eq_false hx] at E0
              have qx : (x == 0) = false := beq_eq_false_iff_ne.2 hx
              have HX := Lib.hid hx
              have E := Lib.hid E0
              clear E0 hx
              go_enter Try.func33, Try.ntmps33
              go_wp2_with fail
              have K0 := (Kept.start w).alloc5 (.int .i64 i) (.int .i64 g) (.int .i64 y) (.int .i64 x) (.bool true) 36 _ rfl
              have k0 := K0.get 0 rfl
              have k1 := K0.get 1 rfl
              have k2 := K0.get 2 rfl
              have k3 := K0.get 3 rfl
              have k4 := K0.get 4 rfl
              refine (DD1.out _).mono ?_
              rintro r9 w1 ⟨rfl, rfl⟩
              go_wp2_with fail
              refine (DD2.out _).mono ?_
              rintro r9 w2 ⟨rfl, rfl⟩
              go_wp2_with fail
              refine (DD3.out _).mono ?_
              rintro r9 w3 ⟨rfl, rfl⟩
              go_wp2_with fail
              refine (DD4.out _).mono ?_
              rintro r9 w4 ⟨rfl, rfl⟩
              go_wp2
              go_ret
              exact ⟨by rw [E.out]; rfl, K0.1⟩
end Go.Proofs.Ytcfcohnkkgickaa

namespace Go.Proofs.Ytcfcohnkkgickaa
open Go.RowKit

set_option maxRecDepth 8000 in
set_option maxHeartbeats 3200000 in
theorem law_toR (i g y x : Int) (nl : Bool) (w : World) :
    Calls Try.prog 83 #[.agg #[.int .i64 i, .int .i64 g, .int .i64 y, .int .i64 x, .bool nl]] w fun e w' => e = .returned (.agg #[.int .i64 i, .int .i64 g, .int .i64 y, .int .i64 x, .bool nl]) ∧ Below w.heap.size w w' := by
  go_enter Try.func83, Try.ntmps83
  go_wp2
  exact bodyPost_ret (v := .agg #[.int .i64 i, .int .i64 g, .int .i64 y, .int .i64 x, .bool nl]) (by simp [results, Try.results83, go_sem]) rfl ⟨rfl, (((Below.refl _ _).alloc (Nat.le_refl _) _).alloc (by simp) _).alloc (by simp; omega) _⟩

set_option maxRecDepth 8000 in
set_option maxHeartbeats 3200000 in
theorem law_eqR (i g y x : Int) (nl : Bool) (w : World) :
    Calls Try.prog 135 #[.agg #[.int .i64 i, .int .i64 g, .int .i64 y, .int .i64 x, .bool nl], .agg #[.int .i64 i, .int .i64 g, .int .i64 y, .int .i64 x, .bool nl]] w fun e w' => e = .returned (.bool true) ∧ Below w.heap.size w w' := by
  go_enter Try.func135, Try.ntmps135
  have K0 := ((Kept.start w).alloc5 (.int .i64 i) (.int .i64 g) (.int .i64 y) (.int .i64 x) (.bool nl) 36 _ rfl).alloc5 (.int .i64 i) (.int .i64 g) (.int .i64 y) (.int .i64 x) (.bool nl) 36 (w.heap.size + 1) (by simp)
  cases nl
  · go_wp2
    go_ret
    exact ⟨rfl, K0.1⟩
  · go_wp2
    go_ret
    exact ⟨rfl, K0.1⟩
end Go.Proofs.Ytcfcohnkkgickaa

namespace Go.Proofs.Ytcfcohnkkgickaa
open Go.RowKit Num

theorem addr_block (x : Addr) (i : Nat) : (x.add i).block = x.block := by unfold Addr.add; split <;> rfl

/-- A row. -/
structure Rw where
  i : Int
  g : Int
  y : Int
  x : Int
  nl : Bool

/-- Row number k of the rows that stand at a. -/
def RowAt (w : World) (a : Addr) (k : Nat) (r : Rw) : Prop :=
  w.cell? (a.add (k * 5)) = some (.int .i64 r.i) ∧ w.cell? ⟨(a.add (k * 5)).block, (a.add (k * 5)).off + 1, none⟩ = some (.int .i64 r.g) ∧ w.cell? ⟨(a.add (k * 5)).block, (a.add (k * 5)).off + 2, none⟩ = some (.int .i64 r.y) ∧ w.cell? ⟨(a.add (k * 5)).block, (a.add (k * 5)).off + 3, none⟩ = some (.int .i64 r.x) ∧ w.cell? ⟨(a.add (k * 5)).block, (a.add (k * 5)).off + 4, none⟩ = some (.bool r.nl)

/-- Row number k of block g. -/
def RowIn (w : World) (g k : Nat) (r : Rw) : Prop :=
  w.cell? ⟨g, k * 5, none⟩ = some (.int .i64 r.i) ∧ w.cell? ⟨g, k * 5 + 1, none⟩ = some (.int .i64 r.g) ∧ w.cell? ⟨g, k * 5 + 2, none⟩ = some (.int .i64 r.y) ∧ w.cell? ⟨g, k * 5 + 3, none⟩ = some (.int .i64 r.x) ∧ w.cell? ⟨g, k * 5 + 4, none⟩ = some (.bool r.nl)

theorem RowIn.below {w w' : World} {B g k : Nat} {r : Rw} (h : RowIn w g k r) (hb : Below B w w') (hg : g < B) : RowIn w' g k r := by
  obtain ⟨h0, h1, h2, h3, h4⟩ := h
  exact ⟨by rw [hb.cell (p := ⟨g, k * 5, none⟩) hg]; exact h0, by rw [hb.cell (p := ⟨g, k * 5 + 1, none⟩) hg]; exact h1, by rw [hb.cell (p := ⟨g, k * 5 + 2, none⟩) hg]; exact h2, by rw [hb.cell (p := ⟨g, k * 5 + 3, none⟩) hg]; exact h3, by rw [hb.cell (p := ⟨g, k * 5 + 4, none⟩) hg]; exact h4⟩

theorem RowAt.below {w w' : World} {B k : Nat} {a : Addr} {r : Rw} (h : RowAt w a k r) (hb : Below B w w') (hg : a.block < B) : RowAt w' a k r := by
  have hg' : (a.add (k * 5)).block < B := by rw [addr_block]; exact hg
  obtain ⟨h0, h1, h2, h3, h4⟩ := h
  have k := fun (o : Nat) => hb.cell (p := ⟨(a.add (k * 5)).block, o, none⟩) hg'
  exact ⟨by rw [hb.cell hg']; exact h0, by rw [k]; exact h1, by rw [k]; exact h2, by rw [k]; exact h3, by rw [k]; exact h4⟩

/-- Block g is the call's own, has room for n rows, and holds the first k of R. -/
def RowsTo (W w : World) (g n k : Nat) (R : Nat → Rw) : Prop :=
  Below W.heap.size W w ∧ W.heap.size ≤ g ∧ g < w.heap.size ∧ (∀ j, j < n * 5 → (∃ v, w.cell? ⟨g, j, none⟩ = some v) ∧ w.frozen? ⟨g, j, none⟩ = false) ∧ ∀ m, m < k → RowIn w g m (R m)

theorem RowsTo.step {W w w' : World} {g n k : Nat} {R : Nat → Rw} (h : RowsTo W w g n k R) (hb : Below w.heap.size w w') : RowsTo W w' g n k R := by
  obtain ⟨h1, h2, h3, h4, h5⟩ := h
  refine ⟨h1.trans (hb.mono h1.size), h2, Nat.lt_of_lt_of_le h3 hb.size, fun j hj => ?_, fun m hm => (h5 m hm).below hb h3⟩
  obtain ⟨⟨v, hv⟩, hf⟩ := h4 j hj
  exact ⟨⟨v, by rw [hb.cell (p := ⟨g, j, none⟩) h3]; exact hv⟩, by rw [hb.frozen (p := ⟨g, j, none⟩) h3]; exact hf⟩

theorem RowsTo.set {W w : World} {g n k : Nat} {R : Nat → Rw} (h : RowsTo W w g n k R) (o : Nat) (u : Value) (ho : k * 5 ≤ o) : RowsTo W (w.setCell ⟨g, o, none⟩ u) g n k R := by
  obtain ⟨h1, h2, h3, h4, h5⟩ := h
  refine ⟨h1.setCell h2 u, h2, by simpa using h3, fun j hj => ?_, fun m hm => ?_⟩
  · obtain ⟨⟨v, hv⟩, hf⟩ := h4 j hj
    refine ⟨?_, by rw [World.frozen?_setCell]; exact hf⟩
    by_cases e : o = j
    · subst e
      exact ⟨u, World.cell?_setCell_same (w := w) (a := ⟨g, o, none⟩) (v := u) hv⟩
    · exact ⟨v, by rw [World.cell?_setCell_other (w := w) (a := ⟨g, o, none⟩) (b := ⟨g, j, none⟩) (v := u) (fun e' => e (congrArg Addr.off e'))]; exact hv⟩
  · obtain ⟨r0, r1, r2, r3, r4⟩ := h5 m hm
    have ne : ∀ j, j < 5 → (⟨g, o, none⟩ : Addr) ≠ ⟨g, m * 5 + j, none⟩ := fun j hj e => by
      have := congrArg Addr.off e
      simp at this
      omega
    exact ⟨by rw [World.cell?_setCell_other (w := w) (a := ⟨g, o, none⟩) (b := ⟨g, m * 5, none⟩) (v := u) (ne 0 (by omega))]; exact r0,
      by rw [World.cell?_setCell_other (w := w) (a := ⟨g, o, none⟩) (b := ⟨g, m * 5 + 1, none⟩) (v := u) (ne 1 (by omega))]; exact r1,
      by rw [World.cell?_setCell_other (w := w) (a := ⟨g, o, none⟩) (b := ⟨g, m * 5 + 2, none⟩) (v := u) (ne 2 (by omega))]; exact r2,
      by rw [World.cell?_setCell_other (w := w) (a := ⟨g, o, none⟩) (b := ⟨g, m * 5 + 3, none⟩) (v := u) (ne 3 (by omega))]; exact r3,
      by rw [World.cell?_setCell_other (w := w) (a := ⟨g, o, none⟩) (b := ⟨g, m * 5 + 4, none⟩) (v := u) (ne 4 (by omega))]; exact r4⟩

theorem set_same {w : World} {g o : Nat} {u : Value} (h : ∃ v, w.cell? ⟨g, o, none⟩ = some v) : (w.setCell ⟨g, o, none⟩ u).cell? ⟨g, o, none⟩ = some u := by
  obtain ⟨v, hv⟩ := h
  exact World.cell?_setCell_same (w := w) (a := ⟨g, o, none⟩) (v := u) hv
theorem set_other {w : World} {g o j : Nat} {u : Value} (h : o ≠ j) : (w.setCell ⟨g, o, none⟩ u).cell? ⟨g, j, none⟩ = w.cell? ⟨g, j, none⟩ :=
  World.cell?_setCell_other (w := w) (a := ⟨g, o, none⟩) (b := ⟨g, j, none⟩) (v := u) (fun e => h (congrArg Addr.off e))

/-- Row number k is stored. -/
theorem RowsTo.put {W w : World} {g n k : Nat} {R : Nat → Rw} (h : RowsTo W w g n k R) (hk : k < n) :
    RowsTo W (((((w.setCell ⟨g, k * 5, none⟩ (.int .i64 (R k).i)).setCell ⟨g, k * 5 + 1, none⟩ (.int .i64 (R k).g)).setCell ⟨g, k * 5 + 2, none⟩ (.int .i64 (R k).y)).setCell ⟨g, k * 5 + 3, none⟩ (.int .i64 (R k).x)).setCell ⟨g, k * 5 + 4, none⟩ (.bool (R k).nl)) g n (k + 1) R := by
  have a1 := h.set (k * 5) (.int .i64 (R k).i) (by omega)
  have a2 := a1.set (k * 5 + 1) (.int .i64 (R k).g) (by omega)
  have a3 := a2.set (k * 5 + 2) (.int .i64 (R k).y) (by omega)
  have a4 := a3.set (k * 5 + 3) (.int .i64 (R k).x) (by omega)
  have a5 := a4.set (k * 5 + 4) (.bool (R k).nl) (by omega)
  refine ⟨a5.1, a5.2.1, a5.2.2.1, a5.2.2.2.1, fun m hm => ?_⟩
  by_cases e : m < k
  · exact a5.2.2.2.2 m e
  · obtain rfl : m = k := by omega
    refine ⟨?_, ?_, ?_, ?_, ?_⟩
    · rw [set_other (by omega), set_other (by omega), set_other (by omega), set_other (by omega)]
      exact set_same (h.2.2.2.1 _ (by omega)).1
    · rw [set_other (by omega), set_other (by omega), set_other (by omega)]
      exact set_same (a1.2.2.2.1 _ (by omega)).1
    · rw [set_other (by omega), set_other (by omega)]
      exact set_same (a2.2.2.2.1 _ (by omega)).1
    · rw [set_other (by omega)]
      exact set_same (a3.2.2.2.1 _ (by omega)).1
    · exact set_same (a4.2.2.2.1 _ (by omega)).1

theorem Try.infoRow : (Try.prog.info? 36).map (fun i => (i.zero, i.size, i.bytes)) = some (some (.agg #[.int .i64 0, .int .i64 0, .int .i64 0, .int .i64 0, .bool false]), 5, 40) := by kernel_rfl

/-- Room for n rows, made. -/
theorem rowsTo_made {w w' : World} {n : Nat} {R : Nat → Rw} {xs : List Value} (h : w'.ownsRow w.heap.size 36 5 (.slice (some ⟨w.heap.size, 0, none⟩) n n) n xs) (hg : w.grownBy w' none) : RowsTo w w' w.heap.size n 0 R := by
  obtain ⟨_, ⟨hno, _⟩ | ⟨g, cap, cur, hv, _, hblk, hn, hcap, hsz, _⟩⟩ := h
  · cases hno
  · obtain ⟨rfl, rfl⟩ : w.heap.size = g ∧ n = cap := by simpa using hv
    have hlt : w.heap.size < w'.heap.size := (Array.getElem?_eq_some_iff.1 hblk).1
    refine ⟨⟨hg.os, hg.tape, hg.output, hg.size, fun j hj => hg.block j hj (by simp)⟩, Nat.le_refl _, hlt, fun j hj => ?_, fun m hm => by omega⟩
    have hj' : j < cur.size := by omega
    refine ⟨⟨cur[j], ?_⟩, ?_⟩
    · simp [World.cell?, hblk, hj']
    · simp [World.frozen?, hblk]

/-- An argument of rows: nil, or n rows that lie below. -/
def RowsArg (w : World) (ao : Option Addr) (n : Nat) (R : Nat → Rw) : Prop := n = 0 ∨ ∃ x, ao = some x ∧ x.block < w.heap.size ∧ ∀ k, k < n → RowAt w x k (R k)

theorem RowsArg.below {w w' : World} {ao : Option Addr} {n : Nat} {R : Nat → Rw} (h : RowsArg w ao n R) (hb : Below w.heap.size w w') : RowsArg w' ao n R := by
  rcases h with h | ⟨x, rfl, hx, h⟩
  · exact .inl h
  · exact .inr ⟨x, rfl, Nat.lt_of_lt_of_le hx hb.size, fun k hk => (h k hk).below hb hx⟩

set_option maxRecDepth 8000 in
set_option maxHeartbeats 3200000 in
theorem law_toRs (ao : Option Addr) (n cap : Nat) (R : Nat → Rw) (w : World) (hn : n ≤ 1048576) (hA : RowsArg w ao n R) :
    Calls Try.prog 109 #[.slice ao n cap] w fun e w' => e = .returned (.slice (some ⟨w.heap.size, 0, none⟩) n n) ∧ RowsTo w w' w.heap.size n n R := by
  have HA : Hid (RowsArg w ao n R) := hA
  clear hA
  have hnI : (n : Int) ≤ 1048576 := by omega
  obtain ⟨i0, hi, hx⟩ := Option.map_eq_some_iff.1 Try.infoRow
  simp only [Prod.mk.injEq] at hx
  obtain ⟨hz0, hz1, hz2⟩ := hx
  go_enter Try.func109, Try.ntmps109
  go_wp2_with (first | (at_make; refine wpList_make_full _ rfl _ _ _ rfl w.heap.size 36 i0 _ 5 (by kernel_rfl) hi hz0 hz1 .i64 .i64 _ _ n rfl rfl (by simp) (by simp) (by rw [hz2]; omega) (by unfold maxLen; omega) (Nat.le_refl _) ?_; intro w1 hown hgr))
  have HM := Lib.hid (rowsTo_made (R := R) hown hgr)
  clear hown hgr hi hz0 hz1 hz2
  go_loopw [4] (fun iv wr => ∃ k : Nat, k ≤ n ∧ iv = .int .i64 k ∧ Hid (RowsTo w wr w.heap.size n k R)) (fun iv _ => n - (intOf iv).toNat)
  case atStart => exact ⟨0, Nat.zero_le _, rfl, HM.out⟩
  case round =>
    obtain ⟨k, hk, rfl, HR⟩ := hrel
    by_cases hlt : k < n
    · have hkI : (k : Int) < (n : Int) := by omega
      rcases HA.out.below (HR.out.1) with h0 | ⟨x, rfl, hxb, hrow⟩
      · omega
      · obtain ⟨c0, c1, c2, c3, c4⟩ := hrow k hlt
        clear hrow
        go_wp2_with fail
        refine (law_toR _ _ _ _ _ _).mono ?_
        rintro e w2 ⟨rfl, hb2⟩
        have H2 := Lib.hid (HR.out.step hb2)
        clear hb2 c0 c1 c2 c3 c4
        have hcell := H2.out.2.2.2.1
        obtain ⟨⟨v0, e0⟩, f0⟩ := hcell (k * 5) (by omega)
        obtain ⟨⟨v1, e1⟩, f1⟩ := hcell (k * 5 + 1) (by omega)
        obtain ⟨⟨v2, e2⟩, f2⟩ := hcell (k * 5 + 2) (by omega)
        obtain ⟨⟨v3, e3⟩, f3⟩ := hcell (k * 5 + 3) (by omega)
        obtain ⟨⟨v4, e4⟩, f4⟩ := hcell (k * 5 + 4) (by omega)
        clear hcell
        have HP := Lib.hid (H2.out.put hlt)
        go_wp2
        go_roundw
        case rel => exact ⟨k + 1, by omega, by go_num, HP.out⟩
        case measure => simp [intOf]; omega
    · obtain rfl : k = n := by omega
      have hsd : decide ((k : Int) < (k : Int)) = false := decide_eq_false (by omega)
      go_wp2
      go_ret
      exact ⟨rfl, HR.out⟩
end Go.Proofs.Ytcfcohnkkgickaa

namespace Go.Proofs.Ytcfcohnkkgickaa
open Go.RowKit Num

/-- A row's validity. -/
def Rw.ok (r : Rw) : Bool := rowB r.i r.g r.y r.x r.nl

/-- Whether the first n rows are valid and their IDs ascend. -/
def areB (R : Nat → Rw) : Nat → Bool
  | 0 => true
  | k + 1 => areB R k && ((R k).ok && (decide (k = 0) || decide ((R (k - 1)).i < (R k).i)))

theorem areB_false {R : Nat → Rw} {k : Nat} (h : areB R k = false) : ∀ m, areB R (k + m) = false
  | 0 => h
  | m + 1 => by show (areB R (k + m) && _) = false; rw [areB_false h m]; rfl
theorem areB_no {R : Nat → Rw} {k n : Nat} (hk : k < n) (h : areB R (k + 1) = false) : areB R n = false := by
  have := areB_false h (n - (k + 1))
  rwa [show k + 1 + (n - (k + 1)) = n by omega] at this
theorem areB_bad {R : Nat → Rw} {k n : Nat} (hk : k < n) (h : (R k).ok = false) : areB R n = false := areB_no hk (by show (areB R k && ((R k).ok && _)) = false; rw [h]; simp)
theorem areB_low {R : Nat → Rw} {m n : Nat} (hk : m + 1 < n) (h : ¬ (R m).i < (R (m + 1)).i) : areB R n = false :=
  areB_no hk (by show (areB R (m + 1) && ((R (m + 1)).ok && (decide (m + 1 = 0) || decide ((R (m + 1 - 1)).i < (R (m + 1)).i)))) = false; rw [show m + 1 - 1 = m by omega, decide_eq_false h]; simp)
theorem areB_zero {R : Nat → Rw} (h : (R 0).ok = true) : areB R 1 = true := by show (areB R 0 && ((R 0).ok && _)) = true; rw [h]; rfl
theorem areB_next {R : Nat → Rw} {m : Nat} (ha : areB R (m + 1) = true) (h : (R (m + 1)).ok = true) (hl : (R m).i < (R (m + 1)).i) : areB R (m + 1 + 1) = true := by
  show (areB R (m + 1) && ((R (m + 1)).ok && (decide (m + 1 = 0) || decide ((R (m + 1 - 1)).i < (R (m + 1)).i)))) = true
  rw [ha, h, show m + 1 - 1 = m by omega, decide_eq_true hl]; simp

/-- The world has grown since W, and block g is there. -/
def Grow (W w : World) (g : Nat) : Prop := Below W.heap.size W w ∧ g < w.heap.size
theorem Grow.step {W w w' : World} {g : Nat} (h : Grow W w g) (hb : Below w.heap.size w w') : Grow W w' g := ⟨h.1.trans (hb.mono h.1.size), Nat.lt_of_lt_of_le h.2 hb.size⟩

theorem r5_start {W w : World} {g k : Nat} {r : Rw} (h : RowIn w g k r) (hg : Grow W w g) :
    w.drew.cell? ⟨g, k * 5, none⟩ = some (.int .i64 r.i) ∧ w.drew.cell? ⟨g, k * 5 + 1, none⟩ = some (.int .i64 r.g) ∧ w.drew.cell? ⟨g, k * 5 + 2, none⟩ = some (.int .i64 r.y) ∧ w.drew.cell? ⟨g, k * 5 + 3, none⟩ = some (.int .i64 r.x) ∧ w.drew.cell? ⟨g, k * 5 + 4, none⟩ = some (.bool r.nl) ∧ Grow W w.drew g :=
  ⟨h.1, h.2.1, h.2.2.1, h.2.2.2.1, h.2.2.2.2, hg.step (Below.refl _ _).drew⟩
theorem r5_keep {W w w' : World} {g k : Nat} {r : Rw} (h : w.cell? ⟨g, k * 5, none⟩ = some (.int .i64 r.i) ∧ w.cell? ⟨g, k * 5 + 1, none⟩ = some (.int .i64 r.g) ∧ w.cell? ⟨g, k * 5 + 2, none⟩ = some (.int .i64 r.y) ∧ w.cell? ⟨g, k * 5 + 3, none⟩ = some (.int .i64 r.x) ∧ w.cell? ⟨g, k * 5 + 4, none⟩ = some (.bool r.nl) ∧ Grow W w g) (hb : Below w.heap.size w w') :
    w'.cell? ⟨g, k * 5, none⟩ = some (.int .i64 r.i) ∧ w'.cell? ⟨g, k * 5 + 1, none⟩ = some (.int .i64 r.g) ∧ w'.cell? ⟨g, k * 5 + 2, none⟩ = some (.int .i64 r.y) ∧ w'.cell? ⟨g, k * 5 + 3, none⟩ = some (.int .i64 r.x) ∧ w'.cell? ⟨g, k * 5 + 4, none⟩ = some (.bool r.nl) ∧ Grow W w' g := by
  obtain ⟨h0, h1, h2, h3, h4, hg⟩ := h
  have r := RowIn.below (r := r) ⟨h0, h1, h2, h3, h4⟩ hb hg.2
  exact ⟨r.1, r.2.1, r.2.2.1, r.2.2.2.1, r.2.2.2.2, hg.step hb⟩
theorem r6_start {W w : World} {g k j : Nat} {r r' : Rw} (h : RowIn w g k r) (h' : RowIn w g j r') (hg : Grow W w g) :
    w.drew.cell? ⟨g, k * 5, none⟩ = some (.int .i64 r.i) ∧ w.drew.cell? ⟨g, k * 5 + 1, none⟩ = some (.int .i64 r.g) ∧ w.drew.cell? ⟨g, k * 5 + 2, none⟩ = some (.int .i64 r.y) ∧ w.drew.cell? ⟨g, k * 5 + 3, none⟩ = some (.int .i64 r.x) ∧ w.drew.cell? ⟨g, k * 5 + 4, none⟩ = some (.bool r.nl) ∧ w.drew.cell? ⟨g, j * 5, none⟩ = some (.int .i64 r'.i) ∧ Grow W w.drew g :=
  ⟨h.1, h.2.1, h.2.2.1, h.2.2.2.1, h.2.2.2.2, h'.1, hg.step (Below.refl _ _).drew⟩
theorem r6_keep {W w w' : World} {g k j : Nat} {r r' : Rw} (h : w.cell? ⟨g, k * 5, none⟩ = some (.int .i64 r.i) ∧ w.cell? ⟨g, k * 5 + 1, none⟩ = some (.int .i64 r.g) ∧ w.cell? ⟨g, k * 5 + 2, none⟩ = some (.int .i64 r.y) ∧ w.cell? ⟨g, k * 5 + 3, none⟩ = some (.int .i64 r.x) ∧ w.cell? ⟨g, k * 5 + 4, none⟩ = some (.bool r.nl) ∧ w.cell? ⟨g, j * 5, none⟩ = some (.int .i64 r'.i) ∧ Grow W w g) (hb : Below w.heap.size w w') :
    w'.cell? ⟨g, k * 5, none⟩ = some (.int .i64 r.i) ∧ w'.cell? ⟨g, k * 5 + 1, none⟩ = some (.int .i64 r.g) ∧ w'.cell? ⟨g, k * 5 + 2, none⟩ = some (.int .i64 r.y) ∧ w'.cell? ⟨g, k * 5 + 3, none⟩ = some (.int .i64 r.x) ∧ w'.cell? ⟨g, k * 5 + 4, none⟩ = some (.bool r.nl) ∧ w'.cell? ⟨g, j * 5, none⟩ = some (.int .i64 r'.i) ∧ Grow W w' g := by
  obtain ⟨h0, h1, h2, h3, h4, h5, hg⟩ := h
  have r := RowIn.below (r := r) ⟨h0, h1, h2, h3, h4⟩ hb hg.2
  exact ⟨r.1, r.2.1, r.2.2.1, r.2.2.2.1, r.2.2.2.2, by rw [hb.cell (p := ⟨g, j * 5, none⟩) hg.2]; exact h5, hg.step hb⟩

/-- A slice of n rows: none, or those of a block from its head on. -/
def RowsVal (w : World) (ao : Option Addr) (n : Nat) (R : Nat → Rw) : Prop := n = 0 ∨ ∃ g, ao = some ⟨g, 0, none⟩ ∧ g < w.heap.size ∧ ∀ k, k < n → RowIn w g k (R k)
theorem RowsVal.below {w w' : World} {ao : Option Addr} {n : Nat} {R : Nat → Rw} (h : RowsVal w ao n R) (hb : Below w.heap.size w w') : RowsVal w' ao n R := by
  rcases h with h | ⟨g, e, hg, h⟩
  · exact .inl h
  · exact .inr ⟨g, e, Nat.lt_of_lt_of_le hg hb.size, fun k hk => (h k hk).below hb hg⟩

set_option maxRecDepth 8000 in
set_option maxHeartbeats 6400000 in
theorem spec_arV (ao : Option Addr) (n cap : Nat) (R : Nat → Rw) (w : World) (hn : n ≤ 1048576) (hV : RowsVal w ao n R) :
    Calls Try.prog 142 #[.slice ao n cap] w fun e w' => e = .returned (.bool (areB R n)) ∧ Below w.heap.size w w' := by
  have HO := Lib.hid hV
  clear hV
  have hnI : (n : Int) ≤ 1048576 := by omega
  go_enter Try.func142, Try.ntmps142
  go_wp2_with fail
  go_loopw [3] (fun iv wr => ∃ k : Nat, k ≤ n ∧ iv = .int .i64 k ∧ Hid (areB R k = true) ∧ Hid (Below w.heap.size w wr)) (fun iv _ => n - (intOf iv).toNat)
  case atStart => exact ⟨0, Nat.zero_le _, rfl, rfl, Below.refl _ _⟩
  case round =>
    obtain ⟨k, hk, rfl, HA, HB⟩ := hrel
    by_cases hlt : k < n
    · have hkI : (k : Int) < (n : Int) := by omega
      obtain ⟨g, rfl, hg, hR⟩ : ∃ g, ao = some ⟨g, 0, none⟩ ∧ g < w.heap.size ∧ ∀ k, k < n → RowIn w g k (R k) := HO.out.resolve_left (by omega)
      have HR := Lib.hid hR
      have HG := Lib.hid (show Grow w wr g from ⟨HB.out, Nat.lt_of_lt_of_le hg HB.out.size⟩)
      clear hR
      have HK := Lib.hid ((HR.out k hlt).below HG.out.1 hg)
      cases hv : (R k).ok
      · have AN := Lib.hid (areB_bad hlt hv)
        have D0 := fun w => spec_rv (R k).i (R k).g (R k).y (R k).x (R k).nl w
        unfold Rw.ok at hv
        rw [hv] at D0
        have DV := Lib.hid D0
        clear D0 hv
        go_wp2_with fail
        refine wp_region_held_drew (S := fun w' => w'.cell? ⟨g, k * 5, none⟩ = some (.int .i64 (R k).i) ∧ w'.cell? ⟨g, k * 5 + 1, none⟩ = some (.int .i64 (R k).g) ∧ w'.cell? ⟨g, k * 5 + 2, none⟩ = some (.int .i64 (R k).y) ∧ w'.cell? ⟨g, k * 5 + 3, none⟩ = some (.int .i64 (R k).x) ∧ w'.cell? ⟨g, k * 5 + 4, none⟩ = some (.bool (R k).nl) ∧ Grow w w' g) (by kernel_rfl) (r5_start HK.out HG.out) (fun hHeld => ?_)
        refine wpAnyH_take (i := 0) (oi := { dst := some 10, op := Go.Op.move (Go.Operand.tmp 0), type := 57, pos := "l04_row.go:48", after := #[], guard := none }) (v := .slice (some ⟨g, 0, none⟩) n cap) rfl (by kernel_rfl) (by kernel_rfl) (by kernel_rfl) (fun _ _ _ h => h) (Or.inl ⟨by rfl, ?_⟩) (by assumption) ?_
        · intro w8 hS8
          (try dsimp only at hS8)
          go_simp
        try simp only [Act.put, List.setIfInBounds_toArray, List.set_cons_zero, List.set_cons_succ]
        refine wpAnyH_take (i := 1) (oi := { dst := some 11, op := Go.Op.move (Go.Operand.tmp 3), type := 3, pos := "l04_row.go:48", after := #[], guard := none }) (v := .int .i64 k) rfl (by kernel_rfl) (by kernel_rfl) (by kernel_rfl) (fun _ _ _ h => h) (Or.inl ⟨by rfl, ?_⟩) (by assumption) ?_
        · intro w8 hS8
          (try dsimp only at hS8)
          go_simp
        try simp only [Act.put, List.setIfInBounds_toArray, List.set_cons_zero, List.set_cons_succ]
        refine wpAnyH_take (i := 2) (oi := { dst := some 12, op := Go.Op.indexAddr 57 (Go.Operand.tmp 10) (Go.Operand.tmp 11), type := 0, pos := "l04_row.go:48", after := #[{ on := 0, ground := Go.Ground.data }, { on := 1, ground := Go.Ground.data }], guard := none }) (v := .pointer (some ⟨g, k * 5, none⟩)) rfl (by kernel_rfl) (by kernel_rfl) (by kernel_rfl) (fun _ _ _ h => h) (Or.inl ⟨by rfl, ?_⟩) (by assumption) ?_
        · intro w8 hS8
          (try dsimp only at hS8)
          go_simp
        try simp only [Act.put, List.setIfInBounds_toArray, List.set_cons_zero, List.set_cons_succ]
        refine wpAnyH_take (i := 3) (oi := { dst := some 13, op := Go.Op.load 36 (Go.Operand.tmp 12), type := 36, pos := "l04_row.go:48", after := #[{ on := 2, ground := Go.Ground.data }], guard := none }) (v := .agg #[.int .i64 (R k).i, .int .i64 (R k).g, .int .i64 (R k).y, .int .i64 (R k).x, .bool (R k).nl]) rfl (by kernel_rfl) (by kernel_rfl) (by kernel_rfl) (fun _ _ _ h => h) (Or.inl ⟨by rfl, ?_⟩) (by assumption) ?_
        · intro w8 hS8
          (try dsimp only at hS8)
          go_simp
        try simp only [Act.put, List.setIfInBounds_toArray, List.set_cons_zero, List.set_cons_succ]
        refine wpAnyH_ready (rs := [4]) (by kernel_rfl) (by simp) ?_
        refine AllReadyH.cons (o := { dst := some 14, op := Go.Op.call { callee := Go.Callee.value (Go.Operand.func 33), args := #[Go.Operand.tmp 13], argTypes := #[36] }, type := 4, pos := "l04_row.go:48", after := #[{ on := 3, ground := Go.Ground.data }], guard := none }) rfl (fun K hK => ?_) AllReadyH.nil
        go_simp
        go_at_call 33
        (with_reducible refine (DV.out _).mono ?_)
        rintro e9 w9 ⟨rfl, hb⟩
        refine hK.out _ _ ?_ (fun hH1 => ?_)
        · exact r5_keep hHeld hb
        clear hK K
        try simp only [Act.put, List.setIfInBounds_toArray, List.set_cons_zero, List.set_cons_succ]
        refine wpAnyH_take (i := 5) (oi := { dst := some 15, op := Go.Op.unOp UnOp.not 4 (Go.Operand.tmp 14), type := 4, pos := "l04_row.go:48", after := #[{ on := 4, ground := Go.Ground.data }], guard := none }) (v := .bool true) rfl (by kernel_rfl) (by kernel_rfl) (by kernel_rfl) (fun _ _ _ h => h) (Or.inl ⟨by rfl, ?_⟩) (by assumption) ?_
        · intro w8 hS8
          (try dsimp only at hS8)
          go_simp
        try simp only [Act.put, List.setIfInBounds_toArray, List.set_cons_zero, List.set_cons_succ]
        refine wpAnyH_take (i := 6) (oi := { dst := some 16, op := Go.Op.move (Go.Operand.tmp 15), type := 4, pos := "l04_row.go:48", after := #[{ on := 5, ground := Go.Ground.data }, { on := 4, ground := Go.Ground.chain }], guard := none }) (v := .bool true) rfl (by kernel_rfl) (by kernel_rfl) (by kernel_rfl) (fun _ _ _ h => h) (Or.inl ⟨by rfl, ?_⟩) (by assumption) ?_
        · intro w8 hS8
          (try dsimp only at hS8)
          go_simp
        try simp only [Act.put, List.setIfInBounds_toArray, List.set_cons_zero, List.set_cons_succ]
        refine held_skip (i := 7) (oi := { dst := some 17, op := Go.Op.move (Go.Operand.tmp 3), type := 3, pos := "l04_row.go:48", after := #[{ on := 6, ground := Go.Ground.guard }], guard := some (6, false) }) rfl (by kernel_rfl) (by kernel_rfl) (by kernel_rfl) (fun _ _ _ h => h) (by rfl) (by assumption) ?_
        try simp only [Act.put, List.setIfInBounds_toArray, List.set_cons_zero, List.set_cons_succ]
        refine held_skip (i := 8) (oi := { dst := some 18, op := Go.Op.binOp BinOp.gtr 3 (Go.Operand.tmp 17) (Go.Operand.const (Go.Value.int Go.IntKind.i64 0)) 3, type := 4, pos := "l04_row.go:48", after := #[{ on := 7, ground := Go.Ground.data }, { on := 6, ground := Go.Ground.guard }], guard := some (6, false) }) rfl (by kernel_rfl) (by kernel_rfl) (by kernel_rfl) (fun _ _ _ h => h) (by rfl) (by assumption) ?_
        try simp only [Act.put, List.setIfInBounds_toArray, List.set_cons_zero, List.set_cons_succ]
        refine held_skip (i := 9) (oi := { dst := some 19, op := Go.Op.move (Go.Operand.tmp 18), type := 4, pos := "l04_row.go:48", after := #[{ on := 8, ground := Go.Ground.data }, { on := 6, ground := Go.Ground.chain }, { on := 6, ground := Go.Ground.guard }], guard := some (6, false) }) rfl (by kernel_rfl) (by kernel_rfl) (by kernel_rfl) (fun _ _ _ h => h) (by rfl) (by assumption) ?_
        try simp only [Act.put, List.setIfInBounds_toArray, List.set_cons_zero, List.set_cons_succ]
        refine held_skip (i := 10) (oi := { dst := some 20, op := Go.Op.move (Go.Operand.tmp 0), type := 57, pos := "l04_row.go:48", after := #[{ on := 9, ground := Go.Ground.guard }], guard := some (9, true) }) rfl (by kernel_rfl) (by kernel_rfl) (by kernel_rfl) (fun _ _ _ h => h) (by rfl) (by assumption) ?_
        try simp only [Act.put, List.setIfInBounds_toArray, List.set_cons_zero, List.set_cons_succ]
        refine held_skip (i := 11) (oi := { dst := some 21, op := Go.Op.move (Go.Operand.tmp 3), type := 3, pos := "l04_row.go:48", after := #[{ on := 9, ground := Go.Ground.guard }], guard := some (9, true) }) rfl (by kernel_rfl) (by kernel_rfl) (by kernel_rfl) (fun _ _ _ h => h) (by rfl) (by assumption) ?_
        try simp only [Act.put, List.setIfInBounds_toArray, List.set_cons_zero, List.set_cons_succ]
        refine held_skip (i := 12) (oi := { dst := some 22, op := Go.Op.binOp BinOp.sub 3 (Go.Operand.tmp 21) (Go.Operand.const (Go.Value.int Go.IntKind.i64 1)) 3, type := 3, pos := "l04_row.go:48", after := #[{ on := 11, ground := Go.Ground.data }, { on := 9, ground := Go.Ground.guard }], guard := some (9, true) }) rfl (by kernel_rfl) (by kernel_rfl) (by kernel_rfl) (fun _ _ _ h => h) (by rfl) (by assumption) ?_
        try simp only [Act.put, List.setIfInBounds_toArray, List.set_cons_zero, List.set_cons_succ]
        refine held_skip (i := 13) (oi := { dst := some 23, op := Go.Op.indexAddr 57 (Go.Operand.tmp 20) (Go.Operand.tmp 22), type := 0, pos := "l04_row.go:48", after := #[{ on := 10, ground := Go.Ground.data }, { on := 12, ground := Go.Ground.data }, { on := 9, ground := Go.Ground.guard }], guard := some (9, true) }) rfl (by kernel_rfl) (by kernel_rfl) (by kernel_rfl) (fun _ _ _ h => h) (by rfl) (by assumption) ?_
        try simp only [Act.put, List.setIfInBounds_toArray, List.set_cons_zero, List.set_cons_succ]
        refine held_skip (i := 14) (oi := { dst := some 24, op := Go.Op.fieldAddr 36 (Go.Operand.tmp 23) 0, type := 0, pos := "l04_row.go:48", after := #[{ on := 13, ground := Go.Ground.data }, { on := 9, ground := Go.Ground.guard }], guard := some (9, true) }) rfl (by kernel_rfl) (by kernel_rfl) (by kernel_rfl) (fun _ _ _ h => h) (by rfl) (by assumption) ?_
        try simp only [Act.put, List.setIfInBounds_toArray, List.set_cons_zero, List.set_cons_succ]
        refine held_skip (i := 15) (oi := { dst := some 25, op := Go.Op.load 3 (Go.Operand.tmp 24), type := 3, pos := "l04_row.go:48", after := #[{ on := 14, ground := Go.Ground.data }, { on := 9, ground := Go.Ground.guard }], guard := some (9, true) }) rfl (by kernel_rfl) (by kernel_rfl) (by kernel_rfl) (fun _ _ _ h => h) (by rfl) (by assumption) ?_
        try simp only [Act.put, List.setIfInBounds_toArray, List.set_cons_zero, List.set_cons_succ]
        refine held_skip (i := 16) (oi := { dst := some 26, op := Go.Op.move (Go.Operand.tmp 0), type := 57, pos := "l04_row.go:48", after := #[{ on := 9, ground := Go.Ground.guard }], guard := some (9, true) }) rfl (by kernel_rfl) (by kernel_rfl) (by kernel_rfl) (fun _ _ _ h => h) (by rfl) (by assumption) ?_
        try simp only [Act.put, List.setIfInBounds_toArray, List.set_cons_zero, List.set_cons_succ]
        refine held_skip (i := 17) (oi := { dst := some 27, op := Go.Op.move (Go.Operand.tmp 3), type := 3, pos := "l04_row.go:48", after := #[{ on := 9, ground := Go.Ground.guard }], guard := some (9, true) }) rfl (by kernel_rfl) (by kernel_rfl) (by kernel_rfl) (fun _ _ _ h => h) (by rfl) (by assumption) ?_
        try simp only [Act.put, List.setIfInBounds_toArray, List.set_cons_zero, List.set_cons_succ]
        refine held_skip (i := 18) (oi := { dst := some 28, op := Go.Op.indexAddr 57 (Go.Operand.tmp 26) (Go.Operand.tmp 27), type := 0, pos := "l04_row.go:48", after := #[{ on := 16, ground := Go.Ground.data }, { on := 17, ground := Go.Ground.data }, { on := 9, ground := Go.Ground.guard }], guard := some (9, true) }) rfl (by kernel_rfl) (by kernel_rfl) (by kernel_rfl) (fun _ _ _ h => h) (by rfl) (by assumption) ?_
        try simp only [Act.put, List.setIfInBounds_toArray, List.set_cons_zero, List.set_cons_succ]
        refine held_skip (i := 19) (oi := { dst := some 29, op := Go.Op.fieldAddr 36 (Go.Operand.tmp 28) 0, type := 0, pos := "l04_row.go:48", after := #[{ on := 18, ground := Go.Ground.data }, { on := 9, ground := Go.Ground.guard }], guard := some (9, true) }) rfl (by kernel_rfl) (by kernel_rfl) (by kernel_rfl) (fun _ _ _ h => h) (by rfl) (by assumption) ?_
        try simp only [Act.put, List.setIfInBounds_toArray, List.set_cons_zero, List.set_cons_succ]
        refine held_skip (i := 20) (oi := { dst := some 30, op := Go.Op.load 3 (Go.Operand.tmp 29), type := 3, pos := "l04_row.go:48", after := #[{ on := 19, ground := Go.Ground.data }, { on := 9, ground := Go.Ground.guard }], guard := some (9, true) }) rfl (by kernel_rfl) (by kernel_rfl) (by kernel_rfl) (fun _ _ _ h => h) (by rfl) (by assumption) ?_
        try simp only [Act.put, List.setIfInBounds_toArray, List.set_cons_zero, List.set_cons_succ]
        refine held_skip (i := 21) (oi := { dst := some 31, op := Go.Op.binOp BinOp.geq 3 (Go.Operand.tmp 25) (Go.Operand.tmp 30) 3, type := 4, pos := "l04_row.go:48", after := #[{ on := 15, ground := Go.Ground.data }, { on := 20, ground := Go.Ground.data }, { on := 9, ground := Go.Ground.guard }], guard := some (9, true) }) rfl (by kernel_rfl) (by kernel_rfl) (by kernel_rfl) (fun _ _ _ h => h) (by rfl) (by assumption) ?_
        try simp only [Act.put, List.setIfInBounds_toArray, List.set_cons_zero, List.set_cons_succ]
        refine held_skip (i := 22) (oi := { dst := some 32, op := Go.Op.pick (Go.Operand.tmp 19) (Go.Operand.tmp 31) (Go.Operand.const (Go.Value.bool false)), type := 4, pos := "l04_row.go:48", after := #[{ on := 9, ground := Go.Ground.data }, { on := 21, ground := Go.Ground.data }, { on := 6, ground := Go.Ground.guard }], guard := some (6, false) }) rfl (by kernel_rfl) (by kernel_rfl) (by kernel_rfl) (fun _ _ _ h => h) (by rfl) (by assumption) ?_
        try simp only [Act.put, List.setIfInBounds_toArray, List.set_cons_zero, List.set_cons_succ]
        refine wpAnyH_take (i := 23) (oi := { dst := some 33, op := Go.Op.pick (Go.Operand.tmp 16) (Go.Operand.const (Go.Value.bool true)) (Go.Operand.tmp 32), type := 4, pos := "l04_row.go:48", after := #[{ on := 6, ground := Go.Ground.data }, { on := 22, ground := Go.Ground.data }], guard := none }) (v := .bool true) rfl (by kernel_rfl) (by kernel_rfl) (by kernel_rfl) (fun _ _ _ h => h) (Or.inl ⟨by rfl, ?_⟩) (by assumption) ?_
        · intro w8 hS8
          (try dsimp only at hS8)
          go_simp
        try simp only [Act.put, List.setIfInBounds_toArray, List.set_cons_zero, List.set_cons_succ]
        refine wpAnyH_done (by kernel_rfl) ?_ _
        go_wp2
        go_ret
        exact ⟨by rw [AN.out]; rfl, hH1.2.2.2.2.2.1⟩
      · have HV := Lib.hid hv
        have D0 := fun w => spec_rv (R k).i (R k).g (R k).y (R k).x (R k).nl w
        unfold Rw.ok at hv
        rw [hv] at D0
        have DV := Lib.hid D0
        clear D0 hv
        by_cases h0 : k = 0
        · have hz : decide ((0 : Int) < (k : Int)) = false := decide_eq_false (by omega)
          have H0 := Lib.hid h0
          have AN := Lib.hid (show areB R (k + 1) = true by have h1 := HV.out; rw [h0] at h1 ⊢; exact areB_zero h1)
          clear h0
          go_wp2_with fail
          refine wp_region_held_drew (S := fun w' => w'.cell? ⟨g, k * 5, none⟩ = some (.int .i64 (R k).i) ∧ w'.cell? ⟨g, k * 5 + 1, none⟩ = some (.int .i64 (R k).g) ∧ w'.cell? ⟨g, k * 5 + 2, none⟩ = some (.int .i64 (R k).y) ∧ w'.cell? ⟨g, k * 5 + 3, none⟩ = some (.int .i64 (R k).x) ∧ w'.cell? ⟨g, k * 5 + 4, none⟩ = some (.bool (R k).nl) ∧ Grow w w' g) (by kernel_rfl) (r5_start HK.out HG.out) (fun hHeld => ?_)
          refine wpAnyH_take (i := 0) (oi := { dst := some 10, op := Go.Op.move (Go.Operand.tmp 0), type := 57, pos := "l04_row.go:48", after := #[], guard := none }) (v := .slice (some ⟨g, 0, none⟩) n cap) rfl (by kernel_rfl) (by kernel_rfl) (by kernel_rfl) (fun _ _ _ h => h) (Or.inl ⟨by rfl, ?_⟩) (by assumption) ?_
          · intro w8 hS8
            (try dsimp only at hS8)
            go_simp
          try simp only [Act.put, List.setIfInBounds_toArray, List.set_cons_zero, List.set_cons_succ]
          refine wpAnyH_take (i := 1) (oi := { dst := some 11, op := Go.Op.move (Go.Operand.tmp 3), type := 3, pos := "l04_row.go:48", after := #[], guard := none }) (v := .int .i64 k) rfl (by kernel_rfl) (by kernel_rfl) (by kernel_rfl) (fun _ _ _ h => h) (Or.inl ⟨by rfl, ?_⟩) (by assumption) ?_
          · intro w8 hS8
            (try dsimp only at hS8)
            go_simp
          try simp only [Act.put, List.setIfInBounds_toArray, List.set_cons_zero, List.set_cons_succ]
          refine wpAnyH_take (i := 2) (oi := { dst := some 12, op := Go.Op.indexAddr 57 (Go.Operand.tmp 10) (Go.Operand.tmp 11), type := 0, pos := "l04_row.go:48", after := #[{ on := 0, ground := Go.Ground.data }, { on := 1, ground := Go.Ground.data }], guard := none }) (v := .pointer (some ⟨g, k * 5, none⟩)) rfl (by kernel_rfl) (by kernel_rfl) (by kernel_rfl) (fun _ _ _ h => h) (Or.inl ⟨by rfl, ?_⟩) (by assumption) ?_
          · intro w8 hS8
            (try dsimp only at hS8)
            go_simp
          try simp only [Act.put, List.setIfInBounds_toArray, List.set_cons_zero, List.set_cons_succ]
          refine wpAnyH_take (i := 3) (oi := { dst := some 13, op := Go.Op.load 36 (Go.Operand.tmp 12), type := 36, pos := "l04_row.go:48", after := #[{ on := 2, ground := Go.Ground.data }], guard := none }) (v := .agg #[.int .i64 (R k).i, .int .i64 (R k).g, .int .i64 (R k).y, .int .i64 (R k).x, .bool (R k).nl]) rfl (by kernel_rfl) (by kernel_rfl) (by kernel_rfl) (fun _ _ _ h => h) (Or.inl ⟨by rfl, ?_⟩) (by assumption) ?_
          · intro w8 hS8
            (try dsimp only at hS8)
            go_simp
          try simp only [Act.put, List.setIfInBounds_toArray, List.set_cons_zero, List.set_cons_succ]
          refine wpAnyH_ready (rs := [4]) (by kernel_rfl) (by simp) ?_
          refine AllReadyH.cons (o := { dst := some 14, op := Go.Op.call { callee := Go.Callee.value (Go.Operand.func 33), args := #[Go.Operand.tmp 13], argTypes := #[36] }, type := 4, pos := "l04_row.go:48", after := #[{ on := 3, ground := Go.Ground.data }], guard := none }) rfl (fun K hK => ?_) AllReadyH.nil
          go_simp
          go_at_call 33
          (with_reducible refine (DV.out _).mono ?_)
          rintro e9 w9 ⟨rfl, hb⟩
          refine hK.out _ _ ?_ (fun hH1 => ?_)
          · exact r5_keep hHeld hb
          clear hK K
          try simp only [Act.put, List.setIfInBounds_toArray, List.set_cons_zero, List.set_cons_succ]
          refine wpAnyH_take (i := 5) (oi := { dst := some 15, op := Go.Op.unOp UnOp.not 4 (Go.Operand.tmp 14), type := 4, pos := "l04_row.go:48", after := #[{ on := 4, ground := Go.Ground.data }], guard := none }) (v := .bool false) rfl (by kernel_rfl) (by kernel_rfl) (by kernel_rfl) (fun _ _ _ h => h) (Or.inl ⟨by rfl, ?_⟩) (by assumption) ?_
          · intro w8 hS8
            (try dsimp only at hS8)
            go_simp
          try simp only [Act.put, List.setIfInBounds_toArray, List.set_cons_zero, List.set_cons_succ]
          refine wpAnyH_take (i := 6) (oi := { dst := some 16, op := Go.Op.move (Go.Operand.tmp 15), type := 4, pos := "l04_row.go:48", after := #[{ on := 5, ground := Go.Ground.data }, { on := 4, ground := Go.Ground.chain }], guard := none }) (v := .bool false) rfl (by kernel_rfl) (by kernel_rfl) (by kernel_rfl) (fun _ _ _ h => h) (Or.inl ⟨by rfl, ?_⟩) (by assumption) ?_
          · intro w8 hS8
            (try dsimp only at hS8)
            go_simp
          try simp only [Act.put, List.setIfInBounds_toArray, List.set_cons_zero, List.set_cons_succ]
          refine wpAnyH_take (i := 7) (oi := { dst := some 17, op := Go.Op.move (Go.Operand.tmp 3), type := 3, pos := "l04_row.go:48", after := #[{ on := 6, ground := Go.Ground.guard }], guard := some (6, false) }) (v := .int .i64 k) rfl (by kernel_rfl) (by kernel_rfl) (by kernel_rfl) (fun _ _ _ h => h) (Or.inl ⟨by rfl, ?_⟩) (by assumption) ?_
          · intro w8 hS8
            (try dsimp only at hS8)
            go_simp
          try simp only [Act.put, List.setIfInBounds_toArray, List.set_cons_zero, List.set_cons_succ]
          refine wpAnyH_take (i := 8) (oi := { dst := some 18, op := Go.Op.binOp BinOp.gtr 3 (Go.Operand.tmp 17) (Go.Operand.const (Go.Value.int Go.IntKind.i64 0)) 3, type := 4, pos := "l04_row.go:48", after := #[{ on := 7, ground := Go.Ground.data }, { on := 6, ground := Go.Ground.guard }], guard := some (6, false) }) (v := .bool false) rfl (by kernel_rfl) (by kernel_rfl) (by kernel_rfl) (fun _ _ _ h => h) (Or.inl ⟨by rfl, ?_⟩) (by assumption) ?_
          · intro w8 hS8
            (try dsimp only at hS8)
            (first | (go_simp; done) | (go_simp; exact H0.out))
          try simp only [Act.put, List.setIfInBounds_toArray, List.set_cons_zero, List.set_cons_succ]
          refine wpAnyH_take (i := 9) (oi := { dst := some 19, op := Go.Op.move (Go.Operand.tmp 18), type := 4, pos := "l04_row.go:48", after := #[{ on := 8, ground := Go.Ground.data }, { on := 6, ground := Go.Ground.chain }, { on := 6, ground := Go.Ground.guard }], guard := some (6, false) }) (v := .bool false) rfl (by kernel_rfl) (by kernel_rfl) (by kernel_rfl) (fun _ _ _ h => h) (Or.inl ⟨by rfl, ?_⟩) (by assumption) ?_
          · intro w8 hS8
            (try dsimp only at hS8)
            go_simp
          try simp only [Act.put, List.setIfInBounds_toArray, List.set_cons_zero, List.set_cons_succ]
          refine held_skip (i := 10) (oi := { dst := some 20, op := Go.Op.move (Go.Operand.tmp 0), type := 57, pos := "l04_row.go:48", after := #[{ on := 9, ground := Go.Ground.guard }], guard := some (9, true) }) rfl (by kernel_rfl) (by kernel_rfl) (by kernel_rfl) (fun _ _ _ h => h) (by rfl) (by assumption) ?_
          try simp only [Act.put, List.setIfInBounds_toArray, List.set_cons_zero, List.set_cons_succ]
          refine held_skip (i := 11) (oi := { dst := some 21, op := Go.Op.move (Go.Operand.tmp 3), type := 3, pos := "l04_row.go:48", after := #[{ on := 9, ground := Go.Ground.guard }], guard := some (9, true) }) rfl (by kernel_rfl) (by kernel_rfl) (by kernel_rfl) (fun _ _ _ h => h) (by rfl) (by assumption) ?_
          try simp only [Act.put, List.setIfInBounds_toArray, List.set_cons_zero, List.set_cons_succ]
          refine held_skip (i := 12) (oi := { dst := some 22, op := Go.Op.binOp BinOp.sub 3 (Go.Operand.tmp 21) (Go.Operand.const (Go.Value.int Go.IntKind.i64 1)) 3, type := 3, pos := "l04_row.go:48", after := #[{ on := 11, ground := Go.Ground.data }, { on := 9, ground := Go.Ground.guard }], guard := some (9, true) }) rfl (by kernel_rfl) (by kernel_rfl) (by kernel_rfl) (fun _ _ _ h => h) (by rfl) (by assumption) ?_
          try simp only [Act.put, List.setIfInBounds_toArray, List.set_cons_zero, List.set_cons_succ]
          refine held_skip (i := 13) (oi := { dst := some 23, op := Go.Op.indexAddr 57 (Go.Operand.tmp 20) (Go.Operand.tmp 22), type := 0, pos := "l04_row.go:48", after := #[{ on := 10, ground := Go.Ground.data }, { on := 12, ground := Go.Ground.data }, { on := 9, ground := Go.Ground.guard }], guard := some (9, true) }) rfl (by kernel_rfl) (by kernel_rfl) (by kernel_rfl) (fun _ _ _ h => h) (by rfl) (by assumption) ?_
          try simp only [Act.put, List.setIfInBounds_toArray, List.set_cons_zero, List.set_cons_succ]
          refine held_skip (i := 14) (oi := { dst := some 24, op := Go.Op.fieldAddr 36 (Go.Operand.tmp 23) 0, type := 0, pos := "l04_row.go:48", after := #[{ on := 13, ground := Go.Ground.data }, { on := 9, ground := Go.Ground.guard }], guard := some (9, true) }) rfl (by kernel_rfl) (by kernel_rfl) (by kernel_rfl) (fun _ _ _ h => h) (by rfl) (by assumption) ?_
          try simp only [Act.put, List.setIfInBounds_toArray, List.set_cons_zero, List.set_cons_succ]
          refine held_skip (i := 15) (oi := { dst := some 25, op := Go.Op.load 3 (Go.Operand.tmp 24), type := 3, pos := "l04_row.go:48", after := #[{ on := 14, ground := Go.Ground.data }, { on := 9, ground := Go.Ground.guard }], guard := some (9, true) }) rfl (by kernel_rfl) (by kernel_rfl) (by kernel_rfl) (fun _ _ _ h => h) (by rfl) (by assumption) ?_
          try simp only [Act.put, List.setIfInBounds_toArray, List.set_cons_zero, List.set_cons_succ]
          refine held_skip (i := 16) (oi := { dst := some 26, op := Go.Op.move (Go.Operand.tmp 0), type := 57, pos := "l04_row.go:48", after := #[{ on := 9, ground := Go.Ground.guard }], guard := some (9, true) }) rfl (by kernel_rfl) (by kernel_rfl) (by kernel_rfl) (fun _ _ _ h => h) (by rfl) (by assumption) ?_
          try simp only [Act.put, List.setIfInBounds_toArray, List.set_cons_zero, List.set_cons_succ]
          refine held_skip (i := 17) (oi := { dst := some 27, op := Go.Op.move (Go.Operand.tmp 3), type := 3, pos := "l04_row.go:48", after := #[{ on := 9, ground := Go.Ground.guard }], guard := some (9, true) }) rfl (by kernel_rfl) (by kernel_rfl) (by kernel_rfl) (fun _ _ _ h => h) (by rfl) (by assumption) ?_
          try simp only [Act.put, List.setIfInBounds_toArray, List.set_cons_zero, List.set_cons_succ]
          refine held_skip (i := 18) (oi := { dst := some 28, op := Go.Op.indexAddr 57 (Go.Operand.tmp 26) (Go.Operand.tmp 27), type := 0, pos := "l04_row.go:48", after := #[{ on := 16, ground := Go.Ground.data }, { on := 17, ground := Go.Ground.data }, { on := 9, ground := Go.Ground.guard }], guard := some (9, true) }) rfl (by kernel_rfl) (by kernel_rfl) (by kernel_rfl) (fun _ _ _ h => h) (by rfl) (by assumption) ?_
          try simp only [Act.put, List.setIfInBounds_toArray, List.set_cons_zero, List.set_cons_succ]
          refine held_skip (i := 19) (oi := { dst := some 29, op := Go.Op.fieldAddr 36 (Go.Operand.tmp 28) 0, type := 0, pos := "l04_row.go:48", after := #[{ on := 18, ground := Go.Ground.data }, { on := 9, ground := Go.Ground.guard }], guard := some (9, true) }) rfl (by kernel_rfl) (by kernel_rfl) (by kernel_rfl) (fun _ _ _ h => h) (by rfl) (by assumption) ?_
          try simp only [Act.put, List.setIfInBounds_toArray, List.set_cons_zero, List.set_cons_succ]
          refine held_skip (i := 20) (oi := { dst := some 30, op := Go.Op.load 3 (Go.Operand.tmp 29), type := 3, pos := "l04_row.go:48", after := #[{ on := 19, ground := Go.Ground.data }, { on := 9, ground := Go.Ground.guard }], guard := some (9, true) }) rfl (by kernel_rfl) (by kernel_rfl) (by kernel_rfl) (fun _ _ _ h => h) (by rfl) (by assumption) ?_
          try simp only [Act.put, List.setIfInBounds_toArray, List.set_cons_zero, List.set_cons_succ]
          refine held_skip (i := 21) (oi := { dst := some 31, op := Go.Op.binOp BinOp.geq 3 (Go.Operand.tmp 25) (Go.Operand.tmp 30) 3, type := 4, pos := "l04_row.go:48", after := #[{ on := 15, ground := Go.Ground.data }, { on := 20, ground := Go.Ground.data }, { on := 9, ground := Go.Ground.guard }], guard := some (9, true) }) rfl (by kernel_rfl) (by kernel_rfl) (by kernel_rfl) (fun _ _ _ h => h) (by rfl) (by assumption) ?_
          try simp only [Act.put, List.setIfInBounds_toArray, List.set_cons_zero, List.set_cons_succ]
          refine wpAnyH_take (i := 22) (oi := { dst := some 32, op := Go.Op.pick (Go.Operand.tmp 19) (Go.Operand.tmp 31) (Go.Operand.const (Go.Value.bool false)), type := 4, pos := "l04_row.go:48", after := #[{ on := 9, ground := Go.Ground.data }, { on := 21, ground := Go.Ground.data }, { on := 6, ground := Go.Ground.guard }], guard := some (6, false) }) (v := .bool false) rfl (by kernel_rfl) (by kernel_rfl) (by kernel_rfl) (fun _ _ _ h => h) (Or.inl ⟨by rfl, ?_⟩) (by assumption) ?_
          · intro w8 hS8
            (try dsimp only at hS8)
            go_simp
          try simp only [Act.put, List.setIfInBounds_toArray, List.set_cons_zero, List.set_cons_succ]
          refine wpAnyH_take (i := 23) (oi := { dst := some 33, op := Go.Op.pick (Go.Operand.tmp 16) (Go.Operand.const (Go.Value.bool true)) (Go.Operand.tmp 32), type := 4, pos := "l04_row.go:48", after := #[{ on := 6, ground := Go.Ground.data }, { on := 22, ground := Go.Ground.data }], guard := none }) (v := .bool false) rfl (by kernel_rfl) (by kernel_rfl) (by kernel_rfl) (fun _ _ _ h => h) (Or.inl ⟨by rfl, ?_⟩) (by assumption) ?_
          · intro w8 hS8
            (try dsimp only at hS8)
            go_simp
          try simp only [Act.put, List.setIfInBounds_toArray, List.set_cons_zero, List.set_cons_succ]
          refine wpAnyH_done (by kernel_rfl) ?_ _
          have HG2 := Lib.hid hH1.2.2.2.2.2
          go_wp2
          go_roundw
          case rel => exact ⟨k + 1, by omega, by go_num, AN.out, HG2.out.1⟩
          case measure => simp [intOf]; omega
        · obtain ⟨m, hm⟩ : ∃ m, k = m + 1 := ⟨k - 1, by omega⟩
          have HM := Lib.hid ((HR.out m (by omega)).below HG.out.1 hg)
          have hz : 0 < k := by omega
          have hw9 : IntKind.i64.wrap ((k : Int) - 1) = (m : Int) := by rw [IntWalk.i64_in _ (by omega)]; omega
          have hmI : (m : Int) < (n : Int) := by omega
          have hm0 : (0 : Int) ≤ (m : Int) := by omega
          have HMK := Lib.hid hm
          clear h0
          by_cases hl : (R m).i < (R k).i
          · have hq : decide ((R k).i ≤ (R m).i) = false := decide_eq_false (by omega)
            have AN := Lib.hid (show areB R (k + 1) = true by have h1 := HV.out; have h2 := HA.out; rw [hm] at h1 h2 hl ⊢; exact areB_next h2 h1 hl)
            clear hl hm
            go_wp2_with fail
            (first | go_region_held3 (fun w' => w'.cell? ⟨g, k * 5, none⟩ = some (.int .i64 (R k).i) ∧ w'.cell? ⟨g, k * 5 + 1, none⟩ = some (.int .i64 (R k).g) ∧ w'.cell? ⟨g, k * 5 + 2, none⟩ = some (.int .i64 (R k).y) ∧ w'.cell? ⟨g, k * 5 + 3, none⟩ = some (.int .i64 (R k).x) ∧ w'.cell? ⟨g, k * 5 + 4, none⟩ = some (.bool (R k).nl) ∧ w'.cell? ⟨g, m * 5, none⟩ = some (.int .i64 (R m).i) ∧ Grow w w' g) (first | assumption | exact r6_start HK.out HM.out HG.out | exact r6_keep (by assumption) (by assumption)) (first | (go_simp; go_at_call 33; (with_reducible refine (DV.out _).mono ?_); rintro e9 w9 ⟨rfl, hb⟩)) | fail)
            all_goals
              have HG2 := Lib.hid (‹_ ∧ _ ∧ _ ∧ _ ∧ _ ∧ _ ∧ Grow w w9 g›.2.2.2.2.2.2)
              clear hw9
              go_wp2
              go_roundw
              case rel => exact ⟨k + 1, by omega, by go_num, AN.out, HG2.out.1⟩
              case measure => simp [intOf]; omega
          · have hq : decide ((R k).i ≤ (R m).i) = true := decide_eq_true (by omega)
            have AN := Lib.hid (show areB R n = false by rw [hm] at hl hlt; exact areB_low hlt hl)
            clear hl hm
            go_wp2_with fail
            (first | go_region_held3 (fun w' => w'.cell? ⟨g, k * 5, none⟩ = some (.int .i64 (R k).i) ∧ w'.cell? ⟨g, k * 5 + 1, none⟩ = some (.int .i64 (R k).g) ∧ w'.cell? ⟨g, k * 5 + 2, none⟩ = some (.int .i64 (R k).y) ∧ w'.cell? ⟨g, k * 5 + 3, none⟩ = some (.int .i64 (R k).x) ∧ w'.cell? ⟨g, k * 5 + 4, none⟩ = some (.bool (R k).nl) ∧ w'.cell? ⟨g, m * 5, none⟩ = some (.int .i64 (R m).i) ∧ Grow w w' g) (first | assumption | exact r6_start HK.out HM.out HG.out | exact r6_keep (by assumption) (by assumption)) (first | (go_simp; go_at_call 33; (with_reducible refine (DV.out _).mono ?_); rintro e9 w9 ⟨rfl, hb⟩)) | fail)
            all_goals
              have HG2 := Lib.hid (‹_ ∧ _ ∧ _ ∧ _ ∧ _ ∧ _ ∧ Grow w w9 g›.2.2.2.2.2.2)
              clear hw9
              go_wp2
              go_ret
              exact ⟨by rw [AN.out]; rfl, HG2.out.1⟩
    · obtain rfl : k = n := by omega
      have hsd : decide ((k : Int) < (k : Int)) = false := decide_eq_false (by omega)
      go_wp2
      go_ret
      exact ⟨by rw [HA.out]; rfl, HB.out⟩

theorem spec_ar (g n cap : Nat) (R : Nat → Rw) (w : World) (hn : n ≤ 1048576) (hg : g < w.heap.size) (hR : ∀ k, k < n → RowIn w g k (R k)) :
    Calls Try.prog 142 #[.slice (some ⟨g, 0, none⟩) n cap] w fun e w' => e = .returned (.bool (areB R n)) ∧ Below w.heap.size w w' :=
  spec_arV _ n cap R w hn (.inr ⟨g, rfl, hg, hR⟩)
end Go.Proofs.Ytcfcohnkkgickaa

namespace Go.Proofs.Ytcfcohnkkgickaa
open Go.RowKit Num

theorem law_sz (ao : Option Addr) (n cap : Nat) (w : World) (hn : n ≤ 1048576) :
    Calls Try.prog 107 #[.slice ao n cap, .int .i64 1048576] w fun e w' => e = .returned (.int .i64 (1048576 - (n : Int))) ∧ w = w' := by
  have h1 : (n : Int) ≤ 1048576 := by omega
  have h2 : ¬ (1048576 - (n : Int)) < 0 := by omega
  have h3 : decide ((1048576 - (n : Int)) < 0) = false := decide_eq_false h2
  go_enter Try.func107, Try.ntmps107
  go_wp2
  go_ret
  exact ⟨rfl, rfl⟩

theorem law_sz_big (ao : Option Addr) (n cap : Nat) (w : World) (hn : 1048576 < n) (hm : n ≤ 9223372036854775807) :
    Calls Try.prog 107 #[.slice ao n cap, .int .i64 1048576] w fun e w' => e = .returned (.int .i64 (-1)) ∧ w = w' := by
  have h1 : (1048576 : Int) < (n : Int) := by omega
  have h4 : (n : Int) ≤ 9223372036854775807 := by omega
  have h2 : (1048576 - (n : Int)) < 0 := by omega
  have h3 : decide ((1048576 - (n : Int)) < 0) = true := decide_eq_true h2
  go_enter Try.func107, Try.ntmps107
  go_wp2
  go_ret
  exact ⟨rfl, rfl⟩

/-- szRowS with what is left: L. -/
theorem law_szL (L : Int) (ao : Option Addr) (n cap : Nat) (w : World) (h0 : 0 ≤ L) (hL : L ≤ 1048576) (hn : (n : Int) ≤ L) :
    Calls Try.prog 107 #[.slice ao n cap, .int .i64 L] w fun e w' => e = .returned (.int .i64 (L - (n : Int))) ∧ w = w' := by
  have h2 : ¬ (L - (n : Int)) < 0 := by omega
  have h3 : decide ((L - (n : Int)) < 0) = false := decide_eq_false h2
  go_enter Try.func107, Try.ntmps107
  go_wp2
  go_ret
  exact ⟨rfl, rfl⟩
theorem law_szL_big (L : Int) (ao : Option Addr) (n cap : Nat) (w : World) (h0 : 0 ≤ L) (hL : L ≤ 1048576) (hn : L < (n : Int)) (hm : n ≤ 9223372036854775807) :
    Calls Try.prog 107 #[.slice ao n cap, .int .i64 L] w fun e w' => e = .returned (.int .i64 (-1)) ∧ w = w' := by
  have h4 : (n : Int) ≤ 9223372036854775807 := by omega
  have h2 : (L - (n : Int)) < 0 := by omega
  have h3 : decide ((L - (n : Int)) < 0) = true := decide_eq_true h2
  go_enter Try.func107, Try.ntmps107
  go_wp2
  go_ret
  exact ⟨rfl, rfl⟩

theorem rr_start {W w : World} {g h k : Nat} {r : Rw} (a : RowIn w g k r) (b : RowIn w h k r) (hg : Grow W w g) (hh : Grow W w h) :
    w.drew.cell? ⟨g, k * 5, none⟩ = some (.int .i64 r.i) ∧ w.drew.cell? ⟨g, k * 5 + 1, none⟩ = some (.int .i64 r.g) ∧ w.drew.cell? ⟨g, k * 5 + 2, none⟩ = some (.int .i64 r.y) ∧ w.drew.cell? ⟨g, k * 5 + 3, none⟩ = some (.int .i64 r.x) ∧ w.drew.cell? ⟨g, k * 5 + 4, none⟩ = some (.bool r.nl) ∧ w.drew.cell? ⟨h, k * 5, none⟩ = some (.int .i64 r.i) ∧ w.drew.cell? ⟨h, k * 5 + 1, none⟩ = some (.int .i64 r.g) ∧ w.drew.cell? ⟨h, k * 5 + 2, none⟩ = some (.int .i64 r.y) ∧ w.drew.cell? ⟨h, k * 5 + 3, none⟩ = some (.int .i64 r.x) ∧ w.drew.cell? ⟨h, k * 5 + 4, none⟩ = some (.bool r.nl) ∧ Grow W w.drew g ∧ Grow W w.drew h :=
  ⟨a.1, a.2.1, a.2.2.1, a.2.2.2.1, a.2.2.2.2, b.1, b.2.1, b.2.2.1, b.2.2.2.1, b.2.2.2.2, hg.step (Below.refl _ _).drew, hh.step (Below.refl _ _).drew⟩
theorem rr_keep {W w w' : World} {g h k : Nat} {r : Rw} (q : w.cell? ⟨g, k * 5, none⟩ = some (.int .i64 r.i) ∧ w.cell? ⟨g, k * 5 + 1, none⟩ = some (.int .i64 r.g) ∧ w.cell? ⟨g, k * 5 + 2, none⟩ = some (.int .i64 r.y) ∧ w.cell? ⟨g, k * 5 + 3, none⟩ = some (.int .i64 r.x) ∧ w.cell? ⟨g, k * 5 + 4, none⟩ = some (.bool r.nl) ∧ w.cell? ⟨h, k * 5, none⟩ = some (.int .i64 r.i) ∧ w.cell? ⟨h, k * 5 + 1, none⟩ = some (.int .i64 r.g) ∧ w.cell? ⟨h, k * 5 + 2, none⟩ = some (.int .i64 r.y) ∧ w.cell? ⟨h, k * 5 + 3, none⟩ = some (.int .i64 r.x) ∧ w.cell? ⟨h, k * 5 + 4, none⟩ = some (.bool r.nl) ∧ Grow W w g ∧ Grow W w h) (hb : Below w.heap.size w w') :
    w'.cell? ⟨g, k * 5, none⟩ = some (.int .i64 r.i) ∧ w'.cell? ⟨g, k * 5 + 1, none⟩ = some (.int .i64 r.g) ∧ w'.cell? ⟨g, k * 5 + 2, none⟩ = some (.int .i64 r.y) ∧ w'.cell? ⟨g, k * 5 + 3, none⟩ = some (.int .i64 r.x) ∧ w'.cell? ⟨g, k * 5 + 4, none⟩ = some (.bool r.nl) ∧ w'.cell? ⟨h, k * 5, none⟩ = some (.int .i64 r.i) ∧ w'.cell? ⟨h, k * 5 + 1, none⟩ = some (.int .i64 r.g) ∧ w'.cell? ⟨h, k * 5 + 2, none⟩ = some (.int .i64 r.y) ∧ w'.cell? ⟨h, k * 5 + 3, none⟩ = some (.int .i64 r.x) ∧ w'.cell? ⟨h, k * 5 + 4, none⟩ = some (.bool r.nl) ∧ Grow W w' g ∧ Grow W w' h := by
  obtain ⟨h0, h1, h2, h3, h4, k0, k1, k2, k3, k4, hg, hh⟩ := q
  have a := RowIn.below (r := r) ⟨h0, h1, h2, h3, h4⟩ hb hg.2
  have b := RowIn.below (r := r) ⟨k0, k1, k2, k3, k4⟩ hb hh.2
  exact ⟨a.1, a.2.1, a.2.2.1, a.2.2.2.1, a.2.2.2.2, b.1, b.2.1, b.2.2.1, b.2.2.2.1, b.2.2.2.2, hg.step hb, hh.step hb⟩

set_option maxRecDepth 8000 in
set_option maxHeartbeats 6400000 in
theorem law_eqRsV (ao bo : Option Addr) (n c c' : Nat) (R : Nat → Rw) (w : World) (hn : n ≤ 1048576) (hG : RowsVal w ao n R) (hH : RowsVal w bo n R) :
    Calls Try.prog 114 #[.slice ao n c, .slice bo n c'] w fun e w' => e = .returned (.bool true) ∧ Below w.heap.size w w' := by
  have HO := Lib.hid hG
  have HP := Lib.hid hH
  clear hG hH
  have hnI : (n : Int) ≤ 1048576 := by omega
  go_enter Try.func114, Try.ntmps114
  go_wp2_with fail
  go_loopw [5] (fun iv wr => ∃ k : Nat, k ≤ n ∧ iv = .int .i64 k ∧ Hid (Below w.heap.size w wr)) (fun iv _ => n - (intOf iv).toNat)
  case atStart => exact ⟨0, Nat.zero_le _, rfl, Below.refl _ _⟩
  case round =>
    obtain ⟨k, hk, rfl, HZ⟩ := hrel
    by_cases hlt : k < n
    · have hkI : (k : Int) < (n : Int) := by omega
      obtain ⟨g, rfl, hg, hA⟩ : ∃ g, ao = some ⟨g, 0, none⟩ ∧ g < w.heap.size ∧ ∀ k, k < n → RowIn w g k (R k) := HO.out.resolve_left (by omega)
      obtain ⟨h, rfl, hh, hB⟩ : ∃ h, bo = some ⟨h, 0, none⟩ ∧ h < w.heap.size ∧ ∀ k, k < n → RowIn w h k (R k) := HP.out.resolve_left (by omega)
      have HA := Lib.hid hA
      have HB := Lib.hid hB
      have HG := Lib.hid (show Grow w wr g from ⟨HZ.out, Nat.lt_of_lt_of_le hg HZ.out.size⟩)
      have HH := Lib.hid (show Grow w wr h from ⟨HZ.out, Nat.lt_of_lt_of_le hh HZ.out.size⟩)
      clear hA hB
      have KA := Lib.hid ((HA.out k hlt).below HG.out.1 hg)
      have KB := Lib.hid ((HB.out k hlt).below HG.out.1 hh)
      go_wp2_with fail
      go_region_held3 (fun w' => w'.cell? ⟨g, k * 5, none⟩ = some (.int .i64 (R k).i) ∧ w'.cell? ⟨g, k * 5 + 1, none⟩ = some (.int .i64 (R k).g) ∧ w'.cell? ⟨g, k * 5 + 2, none⟩ = some (.int .i64 (R k).y) ∧ w'.cell? ⟨g, k * 5 + 3, none⟩ = some (.int .i64 (R k).x) ∧ w'.cell? ⟨g, k * 5 + 4, none⟩ = some (.bool (R k).nl) ∧ w'.cell? ⟨h, k * 5, none⟩ = some (.int .i64 (R k).i) ∧ w'.cell? ⟨h, k * 5 + 1, none⟩ = some (.int .i64 (R k).g) ∧ w'.cell? ⟨h, k * 5 + 2, none⟩ = some (.int .i64 (R k).y) ∧ w'.cell? ⟨h, k * 5 + 3, none⟩ = some (.int .i64 (R k).x) ∧ w'.cell? ⟨h, k * 5 + 4, none⟩ = some (.bool (R k).nl) ∧ Grow w w' g ∧ Grow w w' h) (first | assumption | exact rr_start KA.out KB.out HG.out HH.out | exact rr_keep (by assumption) (by assumption)) (first | (go_simp; go_at_call 135; (with_reducible refine (law_eqR _ _ _ _ _ _).mono ?_); rintro e9 w9 ⟨rfl, hb⟩))
      all_goals
        have HG2 := Lib.hid (‹_ ∧ _ ∧ _ ∧ _ ∧ _ ∧ _ ∧ _ ∧ _ ∧ _ ∧ _ ∧ Grow w w9 g ∧ Grow w w9 h›.2.2.2.2.2.2.2.2.2.2)
        go_wp2
        go_roundw
        case rel => exact ⟨k + 1, by omega, by go_num, HG2.out.1.1⟩
        case measure => simp [intOf]; omega
    · obtain rfl : k = n := by omega
      have hsd : decide ((k : Int) < (k : Int)) = false := decide_eq_false (by omega)
      go_wp2
      go_ret
      exact ⟨rfl, HZ.out⟩

theorem law_eqRs (g h n c c' : Nat) (R : Nat → Rw) (w : World) (hn : n ≤ 1048576) (hg : g < w.heap.size) (hh : h < w.heap.size) (hG : ∀ k, k < n → RowIn w g k (R k)) (hH : ∀ k, k < n → RowIn w h k (R k)) :
    Calls Try.prog 114 #[.slice (some ⟨g, 0, none⟩) n c, .slice (some ⟨h, 0, none⟩) n c'] w fun e w' => e = .returned (.bool true) ∧ Below w.heap.size w w' :=
  law_eqRsV _ _ n c c' R w hn (.inr ⟨g, rfl, hg, hG⟩) (.inr ⟨h, rfl, hh, hH⟩)
end Go.Proofs.Ytcfcohnkkgickaa

namespace Go.Proofs.Ytcfcohnkkgickaa
open Go.RowKit Num

/-- What FindRow answers: the index of the first row with this ID, or -1. -/
def FdAns (R : Nat → Rw) (id : Int) (n : Nat) (v : Int) : Prop := (∃ k : Nat, k < n ∧ (R k).i = id ∧ (∀ j, j < k → (R j).i ≠ id) ∧ v = (k : Int)) ∨ ((∀ j, j < n → (R j).i ≠ id) ∧ v = -1)
theorem FdAns_unique {R : Nat → Rw} {id v v' : Int} {n : Nat} (h : FdAns R id n v) (h' : FdAns R id n v') : v = v' := by
  rcases h with ⟨k, hk, he, hl, rfl⟩ | ⟨hl, rfl⟩ <;> rcases h' with ⟨k', hk', he', hl', rfl⟩ | ⟨hl', rfl⟩
  · have h1 : ¬ k < k' := fun h => hl' k h he
    have h2 : ¬ k' < k := fun h => hl k' h he'
    omega
  · exact absurd he (hl' k hk)
  · exact absurd he' (hl k' hk')
  · rfl
def FdPost (R : Nat → Rw) (id : Int) (n : Nat) (w : World) (e : Ending) (w' : World) : Prop := ∃ v : Int, FdAns R id n v ∧ e = .returned (.int .i64 v) ∧ Below w.heap.size w w'

set_option maxRecDepth 8000 in
set_option maxHeartbeats 3200000 in
theorem spec_fdV (ao : Option Addr) (n cap : Nat) (id : Int) (R : Nat → Rw) (w : World) (hn : n ≤ 1048576) (hV : n = 0 ∨ ∃ g, ao = some ⟨g, 0, none⟩ ∧ ∀ k, k < n → RowIn w g k (R k)) :
    Calls Try.prog 80 #[.slice ao n cap, .int .i64 id] w (FdPost R id n w) := by
  have HO := Lib.hid hV
  clear hV
  have hnI : (n : Int) ≤ 1048576 := by omega
  go_enter Try.func80, Try.ntmps80
  go_wp2_with fail
  go_loop [5] (fun iv => ∃ k : Nat, k ≤ n ∧ iv = .int .i64 k ∧ Hid (∀ j, j < k → (R j).i ≠ id)) (fun iv => n - (intOf iv).toNat)
  case atStart => exact ⟨0, Nat.zero_le _, rfl, (fun j hj => by omega)⟩
  case round =>
    obtain ⟨k, hk, rfl, HA⟩ := hrel
    by_cases hlt : k < n
    · have hkI : (k : Int) < (n : Int) := by omega
      obtain ⟨g, rfl, hR⟩ : ∃ g, ao = some ⟨g, 0, none⟩ ∧ ∀ k, k < n → RowIn w g k (R k) := HO.out.resolve_left (by omega)
      obtain ⟨c0, c1, c2, c3, c4⟩ := hR k hlt
      clear hR
      by_cases he : (R k).i = id
      · have q : ((R k).i == id) = true := by rw [he]; exact beq_self_eq_true id
        have AN := Lib.hid (show FdPost R id n w (.returned (.int .i64 (k : Int))) w from ⟨k, .inl ⟨k, hlt, he, HA.out, rfl⟩, rfl, Below.refl _ _⟩)
        have HE := Lib.hid he
        clear he
        go_wp2
        go_ret
        exact AN.out
      · have q : ((R k).i == id) = false := beq_eq_false_iff_ne.2 he
        have HN := Lib.hid (show ∀ j, j < k + 1 → (R j).i ≠ id from fun j hj => by
          by_cases h : j < k
          · exact HA.out j h
          · obtain rfl : j = k := by omega
            exact he)
        have HE := Lib.hid he
        clear he
        go_wp2
        go_round
        case rel => exact ⟨k + 1, by omega, by go_num, HN.out⟩
        case measure => simp [intOf]; omega
    · obtain rfl : k = n := by omega
      have hsd : decide ((k : Int) < (k : Int)) = false := decide_eq_false (by omega)
      go_wp2
      go_ret
      exact ⟨-1, .inr ⟨HA.out, rfl⟩, rfl, Below.refl _ _⟩

theorem spec_fd (g n cap : Nat) (id : Int) (R : Nat → Rw) (w : World) (hn : n ≤ 1048576) (hR : ∀ k, k < n → RowIn w g k (R k)) :
    Calls Try.prog 80 #[.slice (some ⟨g, 0, none⟩) n cap, .int .i64 id] w (FdPost R id n w) :=
  spec_fdV _ n cap id R w hn (.inr ⟨g, rfl, hR⟩)
end Go.Proofs.Ytcfcohnkkgickaa

namespace Go.Proofs.Ytcfcohnkkgickaa
open Go.RowKit Num

/-- A row's cells, the cells of rows. -/
def rc (r : Rw) : List Value := [.int .i64 r.i, .int .i64 r.g, .int .i64 r.y, .int .i64 r.x, .bool r.nl]
def rcells : List Rw → List Value
  | [] => []
  | r :: l => rc r ++ rcells l
theorem rcells_len : ∀ l : List Rw, (rcells l).length = l.length * 5
  | [] => rfl
  | r :: l => by show (rc r ++ rcells l).length = _; rw [List.length_append, rcells_len l]; simp [rc]; omega
theorem rcells_append : ∀ l m : List Rw, rcells (l ++ m) = rcells l ++ rcells m
  | [], m => rfl
  | r :: l, m => by show rc r ++ rcells (l ++ m) = (rc r ++ rcells l) ++ rcells m; rw [rcells_append l m, List.append_assoc]
theorem rcells_one : ∀ l : List Rw, ∀ u ∈ rcells l, u.oneCell' = true
  | [], u, h => by cases h
  | r :: l, u, h => by
    rcases List.mem_append.1 (show u ∈ rc r ++ rcells l from h) with h | h
    · simp only [rc, List.mem_cons, List.not_mem_nil, or_false] at h
      rcases h with rfl | rfl | rfl | rfl | rfl <;> rfl
    · exact rcells_one l u h
theorem rcells_at : ∀ (l : List Rw) (k j : Nat) (hk : k < l.length), j < 5 → (rcells l)[k * 5 + j]? = (rc l[k])[j]?
  | r :: l, 0, j, _, hj => by
    show (rc r ++ rcells l)[0 * 5 + j]? = _
    rw [List.getElem?_append_left (by simp [rc]; omega)]
    simp
  | r :: l, k + 1, j, hk, hj => by
    show (rc r ++ rcells l)[(k + 1) * 5 + j]? = _
    rw [List.getElem?_append_right (by simp [rc]; omega)]
    have e : (k + 1) * 5 + j - (rc r).length = k * 5 + j := by simp [rc]; omega
    rw [e, rcells_at l k j (by simpa using hk) hj]
    simp

/-- The slice v owns the rows l among the blocks from B on. -/
def OwnR (w : World) (B : Nat) (v : Value) (l : List Rw) : Prop := w.ownsRow B 36 5 v l.length (rcells l)

theorem OwnR.nil (w : World) (B : Nat) : OwnR w B (.slice none 0 0) [] := ⟨rfl, .inl ⟨rfl, rfl⟩⟩
theorem OwnR.lit (w : World) (B : Nat) (hB : B ≤ w.heap.size) : OwnR (w.alloc (.cells #[] 36)) B (.slice (some ⟨w.heap.size, 0, none⟩) 0 0) [] :=
  World.ownsRow_lit w #[] 0 hB (by decide) rfl

/-- An owned row that is not empty, written out. -/
theorem OwnR.form {w : World} {B : Nat} {v : Value} {l : List Rw} (h : OwnR w B v l) (hn : 0 < l.length) :
    ∃ g cap, v = .slice (some ⟨g, 0, none⟩) l.length cap ∧ B ≤ g ∧ g < w.heap.size ∧ l.length ≤ cap ∧ ∀ k (hk : k < l.length), RowIn w g k l[k] := by
  have h0 := h
  rcases h.2 with ⟨_, hz⟩ | ⟨g, cap, cur, rfl, hb, hg, hnc, _, _, _⟩
  · omega
  · refine ⟨g, cap, rfl, hb, (World.ownsRow.lt h0 g rfl).2, hnc, fun k hk => ?_⟩
    have at5 : ∀ j (hj : j < 5) (u : Value), (rc l[k])[j]? = some u → w.cell? ⟨g, k * 5 + j, none⟩ = some u := fun j hj u hu => by
      rw [World.ownsRow.cellAt h0 (k * 5 + j) (by omega), rcells_at l k j hk hj, hu]
    exact ⟨at5 0 (by omega) _ rfl, at5 1 (by omega) _ rfl, at5 2 (by omega) _ rfl, at5 3 (by omega) _ rfl, at5 4 (by omega) _ rfl⟩

/-- Rows that lie in block g from number k on: their cells in a row. -/
theorem cells_of_rows {w : World} {g : Nat} : ∀ (l : List Rw) (k : Nat), (∀ i (hi : i < l.length), RowIn w g (k + i) l[i]) → ∀ j u, (rcells l)[j]? = some u → w.cell? ⟨g, k * 5 + j, none⟩ = some u
  | [], _, _, j, u, hu => by simp [rcells] at hu
  | r :: l, k, h, j, u, hu => by
    obtain ⟨r0, r1, r2, r3, r4⟩ := h 0 (by simp)
    by_cases hj : j < 5
    · have hu' : (rc r ++ rcells l)[j]? = some u := hu
      rw [List.getElem?_append_left (by simp [rc]; omega)] at hu'
      match j, hj with
      | 0, _ => simp [rc] at hu'; subst hu'; exact r0
      | 1, _ => simp [rc] at hu'; subst hu'; exact r1
      | 2, _ => simp [rc] at hu'; subst hu'; exact r2
      | 3, _ => simp [rc] at hu'; subst hu'; exact r3
      | 4, _ => simp [rc] at hu'; subst hu'; exact r4
    · have hu' : (rc r ++ rcells l)[j]? = some u := hu
      rw [List.getElem?_append_right (by simp [rc]; omega)] at hu'
      have e : j - (rc r).length = j - 5 := by simp [rc]
      rw [e] at hu'
      have ih := cells_of_rows l (k + 1) (fun i hi => by
        have := h (i + 1) (by simpa using hi)
        rw [show k + (i + 1) = k + 1 + i by omega] at this
        simpa using this) (j - 5) u hu'
      rw [show (k + 1) * 5 + (j - 5) = k * 5 + j by omega] at ih
      exact ih

/-- 'append(out, l[a:b]...)': rows that stand at ad. -/
theorem wpList_append_rows {ops : Array Oper} {rest : List Oper} {o : Oper} {a : Act} {Q : Exit → Act → World → Prop} {W w : World} (hgd : o.guard = none) (s x : Operand)
    (ho : o.op = .call { callee := .builtin .append, args := #[s, x], argTypes := #[57, 57] })
    (B : Nat) (v : Value) (l news : List Rw) (hs : a.eval s = v) (hown : OwnR w B v l) (ad : Addr) (m c : Nat) (hm : m = news.length)
    (hx : a.eval x = .slice (some ad) m c) (hnews : ∀ j u, (rcells news)[j]? = some u → w.cell? (ad.add j) = some u) (hlen : (l.length + news.length) * 40 ≤ 140737488355328) (hB : B ≤ w.heap.size) (hbel : Below B W w)
    (h : ∀ v' w', OwnR w' B v' (l ++ news) → Below B W w' → wpList Try.prog ops Q rest (a.put o.dst v') w') : wpList Try.prog ops Q (o :: rest) a w := by
  obtain ⟨i0, hi, hx0⟩ := Option.map_eq_some_iff.1 Try.infoRow
  simp only [Prod.mk.injEq] at hx0
  obtain ⟨hz0, hz1, hz2⟩ := hx0
  subst hm
  have hlt : ∀ k, v.ownBlock = some k → B ≤ k := fun k hk => (World.ownsRow.lt hown k hk).1
  refine wpList_append_own _ hgd s x 57 ho B 36 i0 _ 5 40 Try.underlying57 hi hz0 hz1 hz2 rfl (by decide) v l.length (rcells l) hs hown
    ad news.length c (rcells news) hx (rcells_len news) hnews (rcells_one news) (by unfold maxLen; omega) (by omega) hB ?_
  intro v' w' h1 h2 _
  refine h v' w' ?_ (hbel.grown h2 hB hlt)
  unfold OwnR
  rw [List.length_append, rcells_append]
  exact h1
end Go.Proofs.Ytcfcohnkkgickaa

namespace Go.Proofs.Ytcfcohnkkgickaa
open Go Num

/-- Whether a block is valid: its ID, its rows, their number. -/
def blkB (id : Int) (n : Nat) (R : Nat → Rw) : Bool := decide (1 ≤ id ∧ id ≤ 20) && (areB R n && decide (n ≤ 6))

/-- A row's format. -/
def Rw.fmt (r : Rw) : List UInt8 := fmtR r.i r.g r.y r.x r.nl

/-- The rows' formats, each behind a space. -/
def fmtRows (R : Nat → Rw) : Nat → List UInt8
  | 0 => []
  | k + 1 => fmtRows R k ++ 32 :: (R k).fmt

/-- The format of a block. -/
def fmtB (id : Int) (n : Nat) (R : Nat → Rw) : List UInt8 := if blkB id n R = true then 35 :: (Lib.itoa id ++ fmtRows R n) else []

theorem blkB_of {id : Int} {n : Nat} {R : Nat → Rw} (h : blkB id n R = true) : (1 ≤ id ∧ id ≤ 20) ∧ areB R n = true ∧ n ≤ 6 := by
  unfold blkB at h
  rw [Bool.and_eq_true, Bool.and_eq_true] at h
  exact ⟨of_decide_eq_true h.1, h.2.1, of_decide_eq_true h.2.2⟩
theorem fmtB_no {id : Int} {n : Nat} {R : Nat → Rw} (h : blkB id n R = false) : fmtB id n R = [] := by unfold fmtB; rw [if_neg (by rw [h]; simp)]
theorem fmtB_yes {id : Int} {n : Nat} {R : Nat → Rw} (h : blkB id n R = true) : fmtB id n R = 35 :: (Lib.itoa id ++ fmtRows R n) := by unfold fmtB; rw [if_pos h]

/-- Rows that agree have one format, one validity. -/
theorem areB_congr {R R' : Nat → Rw} : ∀ n : Nat, (∀ k, k < n → R k = R' k) → areB R n = areB R' n
  | 0, _ => rfl
  | n + 1, h => by
    have ih := areB_congr n (fun k hk => h k (by omega))
    have e := h n (by omega)
    have e' : R (n - 1) = R' (n - 1) := h (n - 1) (by omega)
    show (areB R n && ((R n).ok && (decide (n = 0) || decide ((R (n - 1)).i < (R n).i)))) = (areB R' n && ((R' n).ok && (decide (n = 0) || decide ((R' (n - 1)).i < (R' n).i))))
    rw [ih, e, e']
theorem fmtRows_congr {R R' : Nat → Rw} : ∀ n : Nat, (∀ k, k < n → R k = R' k) → fmtRows R n = fmtRows R' n
  | 0, _ => rfl
  | n + 1, h => by
    show fmtRows R n ++ 32 :: (R n).fmt = fmtRows R' n ++ 32 :: (R' n).fmt
    rw [fmtRows_congr n (fun k hk => h k (by omega)), h n (by omega)]

theorem areB_rows {R : Nat → Rw} : ∀ n : Nat, areB R n = true → ∀ k, k < n → (R k).ok = true
  | 0, _, k, hk => by omega
  | n + 1, h, k, hk => by
    have h' : (areB R n && ((R n).ok && (decide (n = 0) || decide ((R (n - 1)).i < (R n).i)))) = true := h
    rw [Bool.and_eq_true, Bool.and_eq_true] at h'
    by_cases e : k < n
    · exact areB_rows n h'.1 k e
    · obtain rfl : k = n := by omega
      exact h'.2.1

/-- A valid row's format has no space in it. -/
theorem itoa_space (n : Int) : (32 : UInt8) ∉ Lib.itoa n := itoa_not (by decide) (by unfold isD; decide) n
theorem fmtR_space (r : Rw) : (32 : UInt8) ∉ r.fmt := by
  unfold Rw.fmt
  cases h : rowB r.i r.g r.y r.x r.nl
  · rw [fmtR_no h]; simp
  · rw [fmtR_yes h]
    simp only [List.mem_append, List.mem_cons, not_or]
    refine ⟨itoa_space _, by decide, itoa_space _, by decide, itoa_space _, by decide, ?_⟩
    unfold xT nullW
    split
    · decide
    · exact itoa_space _

theorem pieces_app (c : UInt8) (a b : List UInt8) (h : c ∉ b) : ∀ (P : List (List UInt8)), pieces c a = P → pieces c (a ++ c :: b) = P ++ [b] := by
  intro P hP
  subst hP
  induction a with
  | nil => simp [pieces, pieces_none c b h]
  | cons x a ih =>
    rw [List.cons_append, pieces, pieces]
    split
    · rw [ih]; rfl
    · rw [ih]
      cases hp : pieces c a with
      | nil => have := pieces_len c a; rw [hp] at this; simp at this
      | cons p r => rfl

/-- The pieces of a valid block's format. -/
theorem pieces_fmtRows (h : List UInt8) (hs : (32 : UInt8) ∉ h) (R : Nat → Rw) : ∀ n : Nat, pieces 32 (h ++ fmtRows R n) = h :: (List.range n).map fun k => (R k).fmt
  | 0 => by show pieces 32 (h ++ []) = _; rw [List.append_nil, pieces_none 32 h hs]; rfl
  | n + 1 => by
    show pieces 32 (h ++ (fmtRows R n ++ 32 :: (R n).fmt)) = _
    rw [← List.append_assoc, pieces_app 32 _ _ (fmtR_space _) _ (pieces_fmtRows h hs R n), List.range_succ]
    simp

theorem Rw.ext' {r r' : Rw} (h1 : r.i = r'.i) (h2 : r.g = r'.g) (h3 : r.y = r'.y) (h4 : r.x = r'.x) (h5 : r.nl = r'.nl) : r = r' := by
  cases r; cases r'; simp only at h1 h2 h3 h4 h5; subst h1 h2 h3 h4 h5; rfl

theorem headB_space (id : Int) : (32 : UInt8) ∉ (35 : UInt8) :: Lib.itoa id := by
  simp only [List.mem_cons, not_or]
  exact ⟨by decide, itoa_space id⟩

theorem pieces_fmtB {id : Int} {n : Nat} {R : Nat → Rw} (h : blkB id n R = true) : pieces 32 (fmtB id n R) = (35 :: Lib.itoa id) :: (List.range n).map fun k => (R k).fmt := by
  rw [fmtB_yes h]
  exact pieces_fmtRows (35 :: Lib.itoa id) (headB_space id) R n

/-- Two valid blocks of one format are one. -/
theorem fmtB_unique {id id' : Int} {n n' : Nat} {R R' : Nat → Rw} (h : blkB id n R = true) (h' : blkB id' n' R' = true) (he : fmtB id n R = fmtB id' n' R') : id = id' ∧ n = n' ∧ ∀ k, k < n → R k = R' k := by
  obtain ⟨a1, a2, a3⟩ := blkB_of h
  obtain ⟨b1, b2, b3⟩ := blkB_of h'
  have p := pieces_fmtB h
  rw [he, pieces_fmtB h'] at p
  simp only [List.cons.injEq, true_and] at p
  obtain ⟨p1, p2⟩ := p
  have e1 : id = id' := PIok_unique (PIok_small (by omega) (by omega)) (by rw [← p1]; exact PIok_small (by omega) (by omega))
  have e2 : n' = n := by have := congrArg List.length p2; simpa using this
  subst e2
  refine ⟨e1, rfl, fun k hk => ?_⟩
  have q := congrArg (fun l => l[k]?) p2
  simp only [List.getElem?_map, List.getElem?_range hk, Option.map_some, Option.some.injEq] at q
  have v1 : rowB (R k).i (R k).g (R k).y (R k).x (R k).nl = true := areB_rows n' a2 k hk
  have v2 : rowB (R' k).i (R' k).g (R' k).y (R' k).x (R' k).nl = true := areB_rows n' b2 k hk
  obtain ⟨r1, r2, r3, r4, r5⟩ := fmtR_unique v1 v2 (show fmtR _ _ _ _ _ = fmtR _ _ _ _ _ from q.symm)
  exact Rw.ext' r1 r2 r3 r4 r5

/-- What ParseBlock answers. -/
def PBlk (l : List UInt8) (id : Int) (n : Nat) (R : Nat → Rw) (ok : Bool) : Prop := (ok = true ∧ blkB id n R = true ∧ l = fmtB id n R) ∨ (ok = false ∧ id = 0 ∧ n = 0 ∧ ∀ id' n' R', blkB id' n' R' = true → l ≠ fmtB id' n' R')
theorem PBlk_unique {l : List UInt8} {id id' : Int} {n n' : Nat} {R R' : Nat → Rw} {ok ok' : Bool} (h : PBlk l id n R ok) (h' : PBlk l id' n' R' ok') : id = id' ∧ n = n' ∧ ok = ok' ∧ ∀ k, k < n → R k = R' k := by
  rcases h with ⟨rfl, h, e⟩ | ⟨rfl, rfl, rfl, h⟩ <;> rcases h' with ⟨rfl, h', e'⟩ | ⟨rfl, rfl, rfl, h'⟩
  · obtain ⟨r1, r2, r3⟩ := fmtB_unique h h' (by rw [← e, ← e'])
    exact ⟨r1, r2, rfl, r3⟩
  · exact absurd e (h' _ _ _ h)
  · exact absurd e' (h _ _ _ h')
  · exact ⟨rfl, rfl, rfl, fun k hk => by omega⟩
end Go.Proofs.Ytcfcohnkkgickaa

namespace Go.Proofs.Ytcfcohnkkgickaa
open Go.RowKit Num

theorem RowsTo.apart {W w : World} {g n k : Nat} {R : Nat → Rw} (h : RowsTo W w g n k R) {b o : Nat} (u : Value) (hb : W.heap.size ≤ b) (hne : b ≠ g) : RowsTo W (w.setCell ⟨b, o, none⟩ u) g n k R := by
  obtain ⟨h1, h2, h3, h4, h5⟩ := h
  have oth : ∀ j, (w.setCell ⟨b, o, none⟩ u).cell? ⟨g, j, none⟩ = w.cell? ⟨g, j, none⟩ := fun j => World.cell?_setCell_other (w := w) (a := ⟨b, o, none⟩) (b := ⟨g, j, none⟩) (v := u) (fun e => hne (congrArg Addr.block e))
  refine ⟨h1.setCell hb u, h2, by simpa using h3, fun j hj => ?_, fun m hm => ?_⟩
  · obtain ⟨⟨v, hv⟩, hf⟩ := h4 j hj
    exact ⟨⟨v, by rw [oth]; exact hv⟩, by rw [World.frozen?_setCell]; exact hf⟩
  · obtain ⟨r0, r1, r2, r3, r4⟩ := h5 m hm
    exact ⟨by rw [oth]; exact r0, by rw [oth]; exact r1, by rw [oth]; exact r2, by rw [oth]; exact r3, by rw [oth]; exact r4⟩

theorem RowsTo.rebase {W W' w : World} {g n k : Nat} {R : Nat → Rw} (h : RowsTo W' w g n k R) (hb : Below W.heap.size W W') : RowsTo W w g n k R :=
  ⟨hb.trans (h.1.mono hb.size), Nat.le_trans hb.size h.2.1, h.2.2.1, h.2.2.2.1, h.2.2.2.2⟩

/-- What toBlock leaves: the block with rows of its own. -/
def BlkPost (id : Int) (n : Nat) (R : Nat → Rw) (w : World) (e : Ending) (w' : World) : Prop := ∃ g : Nat, e = .returned (.agg #[.int .i64 id, .slice (some ⟨g, 0, none⟩) n n]) ∧ RowsTo w w' g n n R
theorem BlkPost.mk {id : Int} {n : Nat} {R : Nat → Rw} {w w' : World} {g : Nat} (h : RowsTo w w' g n n R) : BlkPost id n R w (.returned (.agg #[.int .i64 id, .slice (some ⟨g, 0, none⟩) n n])) w' := ⟨g, rfl, h⟩

theorem law_toRs_at (ao : Option Addr) (n cap : Nat) (R : Nat → Rw) (w : World) (B : Nat) (hB : w.heap.size = B) (hn : n ≤ 1048576) (hA : RowsArg w ao n R) :
    Calls Try.prog 109 #[.slice ao n cap] w fun e w' => e = .returned (.slice (some ⟨B, 0, none⟩) n n) ∧ RowsTo w w' B n n R := by
  subst hB; exact law_toRs ao n cap R w hn hA

set_option maxRecDepth 8000 in
set_option maxHeartbeats 3200000 in
theorem law_toBlk (id : Int) (ao : Option Addr) (n cap : Nat) (R : Nat → Rw) (w : World) (hn : n ≤ 1048576) (hA : RowsArg w ao n R) :
    Calls Try.prog 50 #[.agg #[.int .i64 id, .slice ao n cap]] w (BlkPost id n R w) := by
  have HA := Lib.hid hA
  clear hA
  go_enter Try.func50, Try.ntmps50
  go_wp2_with fail
  have K0 := (((Kept.start w).alloc2 (.int .i64 id) (.slice ao n cap) 74 _ rfl).alloc2 (.int .i64 0) (.slice none 0 0) 80 (w.heap.size + 1) (by simp)).alloc2 (.int .i64 id) (.slice none 0 0) 80 (w.heap.size + 1 + 1) (by simp)
  refine (law_toRs_at ao n cap R _ (w.heap.size + 1 + 1 + 1) (by simp) hn (HA.out.below K0.1)).mono ?_
  rintro e w1 ⟨rfl, H1⟩
  have K1 := K0.step H1.1
  have H2 := Lib.hid (H1.rebase K0.1)
  have K2 := Kept.set (p := [(⟨w.heap.size + 1 + 1, 0, none⟩, .int .i64 id)]) K1 (.slice (some ⟨w.heap.size + 1 + 1 + 1, 0, none⟩) n n) (by simp only; omega) (by simp only [List.cons_append, List.nil_append, List.mem_cons, List.not_mem_nil, or_false]; rintro c9 (rfl | rfl | rfl | rfl | rfl) <;> simp)
  clear H1 K0
  have k1 := K1.get 1 rfl
  have f1 := K1.fz 1 rfl
  have m0 := K2.get 0 rfl
  have m1 := K2.get 1 rfl
  have m2 := K2.get 2 rfl
  have m3 := K2.get 3 rfl
  have f2 := K2.fz 2 rfl
  have f3 := K2.fz 3 rfl
  have z := K2.lt 2 rfl
  go_wp2
  exact bodyPost_ret (v := .agg #[.int .i64 id, .slice (some ⟨w.heap.size + 1 + 1 + 1, 0, none⟩) n n]) (by simp [results, Try.results50, go_sem, m2, m3, z]) rfl
    (BlkPost.mk (((H2.out.apart (b := w.heap.size + 1 + 1) (o := 1) _ (by omega) (by omega)).apart (b := w.heap.size + 1) (o := 0) _ (by omega) (by omega)).apart (b := w.heap.size + 1) (o := 1) _ (by omega) (by omega)))

set_option maxRecDepth 8000 in
set_option maxHeartbeats 3200000 in
theorem law_eqBlkV (id : Int) (ao bo : Option Addr) (n c c' : Nat) (R : Nat → Rw) (w : World) (hn : n ≤ 1048576) (hG : RowsVal w ao n R) (hH : RowsVal w bo n R) :
    Calls Try.prog 53 #[.agg #[.int .i64 id, .slice ao n c], .agg #[.int .i64 id, .slice bo n c']] w fun e w' => e = .returned (.bool true) ∧ Below w.heap.size w w' := by
  have HG := Lib.hid hG
  have HH := Lib.hid hH
  clear hG hH
  go_enter Try.func53, Try.ntmps53
  go_wp2_with fail
  have K0 := ((Kept.start w).alloc2 (.int .i64 id) (.slice ao n c) 80 _ rfl).alloc2 (.int .i64 id) (.slice bo n c') 80 (w.heap.size + 1) (by simp)
  refine (law_eqRsV ao bo n c c' R _ hn (HG.out.below K0.1) (HH.out.below K0.1)).mono ?_
  rintro e w1 ⟨rfl, hb⟩
  have K1 := K0.step hb
  clear hb K0
  go_wp2
  go_ret
  exact ⟨rfl, K1.1⟩

theorem law_eqBlk (id : Int) (g h n c c' : Nat) (R : Nat → Rw) (w : World) (hn : n ≤ 1048576) (hg : g < w.heap.size) (hh : h < w.heap.size) (hG : ∀ k, k < n → RowIn w g k (R k)) (hH : ∀ k, k < n → RowIn w h k (R k)) :
    Calls Try.prog 53 #[.agg #[.int .i64 id, .slice (some ⟨g, 0, none⟩) n c], .agg #[.int .i64 id, .slice (some ⟨h, 0, none⟩) n c']] w fun e w' => e = .returned (.bool true) ∧ Below w.heap.size w w' :=
  law_eqBlkV id _ _ n c c' R w hn (.inr ⟨g, rfl, hg, hG⟩) (.inr ⟨h, rfl, hh, hH⟩)

theorem law_szb (id : Int) (ao : Option Addr) (n cap : Nat) (w : World) (hn : n ≤ 1048576) :
    Calls Try.prog 48 #[.agg #[.int .i64 id, .slice ao n cap], .int .i64 1048576] w fun e w' => e = .returned (.int .i64 (1048576 - (n : Int))) ∧ Below w.heap.size w w' := by
  have h1 : (n : Int) ≤ 1048576 := by omega
  have h2 : ¬ (1048576 - (n : Int)) < 0 := by omega
  have h3 : decide ((1048576 - (n : Int)) < 0) = false := decide_eq_false h2
  go_enter Try.func48, Try.ntmps48
  go_wp2_with fail
  refine (law_sz ao n cap _ hn).mono ?_
  rintro e w1 ⟨rfl, rfl⟩
  go_wp2
  go_ret
  exact ⟨rfl, (Below.refl _ _).alloc (Nat.le_refl _) _⟩

theorem law_szb_big (id : Int) (ao : Option Addr) (n cap : Nat) (w : World) (hn : 1048576 < n) (hm : n ≤ 9223372036854775807) :
    Calls Try.prog 48 #[.agg #[.int .i64 id, .slice ao n cap], .int .i64 1048576] w fun e w' => e = .returned (.int .i64 (-1)) ∧ Below w.heap.size w w' := by
  go_enter Try.func48, Try.ntmps48
  go_wp2_with fail
  refine (law_sz_big ao n cap _ hn hm).mono ?_
  rintro e w1 ⟨rfl, rfl⟩
  go_wp2
  go_ret
  exact ⟨rfl, (Below.refl _ _).alloc (Nat.le_refl _) _⟩

set_option maxRecDepth 8000 in
set_option maxHeartbeats 3200000 in
theorem spec_bvV (id : Int) (ao : Option Addr) (n cap : Nat) (R : Nat → Rw) (w : World) (hn : n ≤ 1048576) (hV : RowsVal w ao n R) :
    Calls Try.prog 108 #[.agg #[.int .i64 id, .slice ao n cap]] w fun e w' => e = .returned (.bool (blkB id n R)) ∧ Below w.heap.size w w' := by
  have HV := Lib.hid hV
  clear hV
  have hnI : (n : Int) ≤ 1048576 := by omega
  have D1 := fun w => l1In_b id 1 20 w
  have D2 := fun w hV => spec_arV ao n cap R w hn hV
  have E0 : blkB id n R = (decide (1 ≤ id ∧ id ≤ 20) && (areB R n && decide (n ≤ 6))) := rfl
  obtain ⟨q1, hq1⟩ : ∃ q, q = decide (1 ≤ id ∧ id ≤ 20) := ⟨_, rfl⟩
  rw [← hq1] at D1 E0
  obtain ⟨q2, hq2⟩ : ∃ q, q = areB R n := ⟨_, rfl⟩
  rw [← hq2] at D2 E0
  have DD1 := Lib.hid D1
  have DD2 := Lib.hid D2
  clear D1 D2 hq1 hq2
  cases q1
  · have E := Lib.hid E0
    clear E0
    go_enter Try.func108, Try.ntmps108
    go_wp2_with fail
    have K0 := (Kept.start w).alloc2 (.int .i64 id) (.slice ao n cap) 80 _ rfl
    have k0 := K0.get 0 rfl
    have k1 := K0.get 1 rfl
    refine (DD1.out _).mono ?_
    rintro r9 w1 ⟨rfl, rfl⟩
    go_wp2
    go_ret
    exact ⟨by rw [E.out]; rfl, K0.1⟩
  · by_cases h6 : n ≤ 6
    · rw [decide_eq_true h6] at E0
      have E := Lib.hid E0
      have h6d : decide ((n : Int) ≤ 6) = true := decide_eq_true (by omega)
      clear E0
      go_enter Try.func108, Try.ntmps108
      go_wp2_with fail
      have K0 := (Kept.start w).alloc2 (.int .i64 id) (.slice ao n cap) 80 _ rfl
      have k0 := K0.get 0 rfl
      have k1 := K0.get 1 rfl
      refine (DD1.out _).mono ?_
      rintro r9 w1 ⟨rfl, rfl⟩
      go_wp2_with fail
      refine (DD2.out _ (HV.out.below K0.1)).mono ?_
      rintro r9 w2 ⟨rfl, hb⟩
      have K1 := K0.step hb
      clear hb K0 k0 k1
      have k0 := K1.get 0 rfl
      have k1 := K1.get 1 rfl
      cases q2
      · go_wp2
        go_ret
        exact ⟨by rw [E.out]; rfl, K1.1⟩
      · go_wp2
        go_ret
        exact ⟨by rw [E.out]; rfl, K1.1⟩
    · rw [decide_eq_false h6] at E0
      have E := Lib.hid E0
      have h6d : decide ((n : Int) ≤ 6) = false := decide_eq_false (by omega)
      have h6e : decide (n ≤ 6) = false := decide_eq_false h6
      clear E0
      go_enter Try.func108, Try.ntmps108
      go_wp2_with fail
      have K0 := (Kept.start w).alloc2 (.int .i64 id) (.slice ao n cap) 80 _ rfl
      have k0 := K0.get 0 rfl
      have k1 := K0.get 1 rfl
      refine (DD1.out _).mono ?_
      rintro r9 w1 ⟨rfl, rfl⟩
      go_wp2_with fail
      refine (DD2.out _ (HV.out.below K0.1)).mono ?_
      rintro r9 w2 ⟨rfl, hb⟩
      have K1 := K0.step hb
      clear hb K0 k0 k1
      have k0 := K1.get 0 rfl
      have k1 := K1.get 1 rfl
      cases q2
      · go_wp2
        go_ret
        exact ⟨by rw [E.out]; rfl, K1.1⟩
      · go_wp2
        go_ret
        exact ⟨by rw [E.out]; rfl, K1.1⟩

theorem spec_bv (id : Int) (g n cap : Nat) (R : Nat → Rw) (w : World) (hn : n ≤ 1048576) (hg : g < w.heap.size) (hR : ∀ k, k < n → RowIn w g k (R k)) :
    Calls Try.prog 108 #[.agg #[.int .i64 id, .slice (some ⟨g, 0, none⟩) n cap]] w fun e w' => e = .returned (.bool (blkB id n R)) ∧ Below w.heap.size w w' :=
  spec_bvV id _ n cap R w hn (.inr ⟨g, rfl, hg, hR⟩)

/-! What the region 'eqBlock(x0, toBlock(aB))' keeps: the two boxes' cells, x0's rows. -/
theorem bl_start {W w : World} {g n : Nat} {R : Nat → Rw} {a0 a1 a2 a3 : Addr} {v0 v1 v2 v3 : Value} {l : List (Addr × Value)} (H : RowsTo W w g n n R) (h : Kept W w ((a0, v0) :: (a1, v1) :: (a2, v2) :: (a3, v3) :: l)) :
    w.drew.cell? a0 = some v0 ∧ w.drew.cell? a1 = some v1 ∧ w.drew.cell? a2 = some v2 ∧ w.drew.cell? a3 = some v3 ∧ RowsTo W w.drew g n n R ∧ Kept W w.drew ((a0, v0) :: (a1, v1) :: (a2, v2) :: (a3, v3) :: l) :=
  ⟨h.drew.get 0 rfl, h.drew.get 1 rfl, h.drew.get 2 rfl, h.drew.get 3 rfl, H.step (Below.refl _ _).drew, h.drew⟩
theorem bl_keep {W w w1 : World} {g n : Nat} {R : Nat → Rw} {a0 a1 a2 a3 : Addr} {v0 v1 v2 v3 : Value} {l : List (Addr × Value)} (h : w.cell? a0 = some v0 ∧ w.cell? a1 = some v1 ∧ w.cell? a2 = some v2 ∧ w.cell? a3 = some v3 ∧ RowsTo W w g n n R ∧ Kept W w ((a0, v0) :: (a1, v1) :: (a2, v2) :: (a3, v3) :: l)) (hb : Below w.heap.size w w1) :
    w1.cell? a0 = some v0 ∧ w1.cell? a1 = some v1 ∧ w1.cell? a2 = some v2 ∧ w1.cell? a3 = some v3 ∧ RowsTo W w1 g n n R ∧ Kept W w1 ((a0, v0) :: (a1, v1) :: (a2, v2) :: (a3, v3) :: l) :=
  have k := h.2.2.2.2.2.step hb
  ⟨k.get 0 rfl, k.get 1 rfl, k.get 2 rfl, k.get 3 rfl, h.2.2.2.2.1.step hb, k⟩
theorem bl_rows {W w : World} {g n : Nat} {R : Nat → Rw} {p0 p1 p2 p3 p4 : Prop} (h : p0 ∧ p1 ∧ p2 ∧ p3 ∧ RowsTo W w g n n R ∧ p4) : RowsTo W w g n n R := h.2.2.2.2.1
theorem bl_arg {W w : World} {ao : Option Addr} {m : Nat} {R' : Nat → Rw} {p0 p1 p2 p3 p4 : Prop} {l : List (Addr × Value)} (hA : RowsArg W ao m R') (h : p0 ∧ p1 ∧ p2 ∧ p3 ∧ p4 ∧ Kept W w l) : RowsArg w ao m R' := hA.below h.2.2.2.2.2.1

/-- szBlock with what is left: L. -/
theorem law_szbL (L : Int) (id : Int) (ao : Option Addr) (n cap : Nat) (w : World) (h0 : 0 ≤ L) (hL : L ≤ 1048576) (hn : (n : Int) ≤ L) :
    Calls Try.prog 48 #[.agg #[.int .i64 id, .slice ao n cap], .int .i64 L] w fun e w' => e = .returned (.int .i64 (L - (n : Int))) ∧ Below w.heap.size w w' := by
  have h2 : ¬ (L - (n : Int)) < 0 := by omega
  have h3 : decide ((L - (n : Int)) < 0) = false := decide_eq_false h2
  go_enter Try.func48, Try.ntmps48
  go_wp2_with fail
  refine (law_szL L ao n cap _ h0 hL hn).mono ?_
  rintro e w1 ⟨rfl, rfl⟩
  go_wp2
  go_ret
  exact ⟨rfl, (Below.refl _ _).alloc (Nat.le_refl _) _⟩
theorem law_szbL_big (L : Int) (id : Int) (ao : Option Addr) (n cap : Nat) (w : World) (h0 : 0 ≤ L) (hL : L ≤ 1048576) (hn : L < (n : Int)) (hm : n ≤ 9223372036854775807) :
    Calls Try.prog 48 #[.agg #[.int .i64 id, .slice ao n cap], .int .i64 L] w fun e w' => e = .returned (.int .i64 (-1)) ∧ Below w.heap.size w w' := by
  go_enter Try.func48, Try.ntmps48
  go_wp2_with fail
  refine (law_szL_big L ao n cap _ h0 hL hn hm).mono ?_
  rintro e w1 ⟨rfl, rfl⟩
  go_wp2
  go_ret
  exact ⟨rfl, (Below.refl _ _).alloc (Nat.le_refl _) _⟩

/-! What a region keeps against the world at its head: four cells; the rest follows from Below. -/
theorem bq_start {W w : World} {a0 a1 a2 a3 : Addr} {v0 v1 v2 v3 : Value} {l : List (Addr × Value)} (h : Kept W w ((a0, v0) :: (a1, v1) :: (a2, v2) :: (a3, v3) :: l)) :
    w.drew.cell? a0 = some v0 ∧ w.drew.cell? a1 = some v1 ∧ w.drew.cell? a2 = some v2 ∧ w.drew.cell? a3 = some v3 ∧ Below w.heap.size w w.drew :=
  ⟨h.drew.get 0 rfl, h.drew.get 1 rfl, h.drew.get 2 rfl, h.drew.get 3 rfl, (Below.refl _ _).drew⟩
theorem bq_keep {W w w' w1 : World} {a0 a1 a2 a3 : Addr} {v0 v1 v2 v3 : Value} {l : List (Addr × Value)} (h : Kept W w ((a0, v0) :: (a1, v1) :: (a2, v2) :: (a3, v3) :: l)) (q : w'.cell? a0 = some v0 ∧ w'.cell? a1 = some v1 ∧ w'.cell? a2 = some v2 ∧ w'.cell? a3 = some v3 ∧ Below w.heap.size w w') (hb : Below w'.heap.size w' w1) :
    w1.cell? a0 = some v0 ∧ w1.cell? a1 = some v1 ∧ w1.cell? a2 = some v2 ∧ w1.cell? a3 = some v3 ∧ Below w.heap.size w w1 :=
  have b := q.2.2.2.2.trans (hb.mono q.2.2.2.2.size)
  have k := h.step b
  ⟨k.get 0 rfl, k.get 1 rfl, k.get 2 rfl, k.get 3 rfl, b⟩
theorem bq_below {w w' : World} {p0 p1 p2 p3 : Prop} (h : p0 ∧ p1 ∧ p2 ∧ p3 ∧ Below w.heap.size w w') : Below w.heap.size w w' := h.2.2.2.2
end Go.Proofs.Ytcfcohnkkgickaa

namespace Go.Proofs.Ytcfcohnkkgickaa
open Go.RowKit

theorem int_eq {a b : Int} (h : a = b) : Value.int .i64 a = Value.int .i64 b := by rw [h]

/-- The world has grown since w, and of the blocks that were there only those of fp may have changed. -/
structure Chg (fp : List Nat) (w w' : World) : Prop where
  os : w'.os = w.os
  tape : w'.tape = w.tape
  output : w'.output = w.output
  size : w.heap.size ≤ w'.heap.size
  block : ∀ k, k < w.heap.size → k ∉ fp → w'.heap[k]? = w.heap[k]?

theorem Chg.refl (fp : List Nat) (w : World) : Chg fp w w := ⟨rfl, rfl, rfl, Nat.le_refl _, fun _ _ _ => rfl⟩
theorem Chg.step {fp : List Nat} {W w w' : World} (h : Chg fp W w) (hb : Below w.heap.size w w') : Chg fp W w' :=
  ⟨hb.os.trans h.os, hb.tape.trans h.tape, hb.output.trans h.output, Nat.le_trans h.size hb.size, fun k hk hn => (hb.block k (Nat.lt_of_lt_of_le hk h.size)).trans (h.block k hk hn)⟩
theorem Chg.of {fp : List Nat} {w w' : World} (hb : Below w.heap.size w w') : Chg fp w w' := (Chg.refl fp w).step hb
theorem Chg.drew {fp : List Nat} {W w : World} (h : Chg fp W w) : Chg fp W w.drew := h.step (Below.refl _ _).drew
theorem Chg.set {fp : List Nat} {W w : World} (h : Chg fp W w) {a : Addr} (ha : a.block ∈ fp) (u : Value) : Chg fp W (w.setCell a u) :=
  ⟨h.os, h.tape, h.output, by simpa using h.size, fun k hk hn => (Below.heap_setCell _ _ _ _ (fun e => hn (by rw [e]; exact ha))).trans (h.block k hk hn)⟩
theorem Chg.trans {fp : List Nat} {a b c : World} (h : Chg fp a b) (k : Chg fp b c) : Chg fp a c :=
  ⟨k.os.trans h.os, k.tape.trans h.tape, k.output.trans h.output, Nat.le_trans h.size k.size, fun i hi hn => (k.block i (Nat.lt_of_lt_of_le hi h.size) hn).trans (h.block i hi hn)⟩
theorem Chg.mono {fp fp' : List Nat} {a b : World} (h : Chg fp a b) (hs : ∀ k ∈ fp, k ∈ fp') : Chg fp' a b :=
  ⟨h.os, h.tape, h.output, h.size, fun k hk hn => h.block k hk (fun e => hn (hs k e))⟩
theorem Chg.below {B : Nat} {fp : List Nat} {w w' : World} (h : Chg fp w w') (hf : ∀ k ∈ fp, B ≤ k) (hB : B ≤ w.heap.size) : Below B w w' :=
  ⟨h.os, h.tape, h.output, h.size, fun k hk => h.block k (Nat.lt_of_lt_of_le hk hB) (fun e => by have := hf k e; omega)⟩
theorem Kept.chg {W w w' : World} {l : List (Addr × Value)} {fp : List Nat} (h : Kept W w l) (hc : Chg fp w w') (hf : ∀ k ∈ fp, W.heap.size ≤ k) (hl : ∀ p ∈ l, p.1.block ∉ fp) : Kept W w' l :=
  ⟨h.1.trans (hc.below hf h.1.size), fun p hp => ⟨Nat.lt_of_lt_of_le (h.2 p hp).1 hc.size,
    (World.cell?_of_block (hc.block _ (h.2 p hp).1 (hl p hp))).trans (h.2 p hp).2.1,
    (World.frozen?_of_block (hc.block _ (h.2 p hp).1 (hl p hp))).trans (h.2 p hp).2.2⟩⟩

/-- The first N cells of block g are there and may be written. -/
def OwnBlk (w : World) (g N : Nat) : Prop := g < w.heap.size ∧ ∀ j, j < N → (∃ v, w.cell? ⟨g, j, none⟩ = some v) ∧ w.frozen? ⟨g, j, none⟩ = false
theorem OwnBlk.keep {w w' : World} {g N : Nat} (h : OwnBlk w g N) (hk : w'.heap[g]? = w.heap[g]?) : OwnBlk w' g N := by
  refine ⟨?_, fun j hj => ?_⟩
  · have h1 := h.1
    rcases Nat.lt_or_ge g w'.heap.size with h2 | h2
    · exact h2
    · rw [Array.getElem?_eq_none h2] at hk
      rw [Array.getElem?_eq_getElem h1] at hk
      cases hk
  · rw [World.cell?_of_block (a := ⟨g, j, none⟩) hk, World.frozen?_of_block (a := ⟨g, j, none⟩) hk]
    exact h.2 j hj
theorem OwnBlk.set {w : World} {g N : Nat} (h : OwnBlk w g N) (a : Addr) (u : Value) : OwnBlk (w.setCell a u) g N := by
  refine ⟨by simpa using h.1, fun j hj => ?_⟩
  obtain ⟨⟨v, hv⟩, hf⟩ := h.2 j hj
  refine ⟨?_, by rw [World.frozen?_setCell]; exact hf⟩
  by_cases e : a = ⟨g, j, none⟩
  · subst e
    exact ⟨u, World.cell?_setCell_same (w := w) (a := ⟨g, j, none⟩) (v := u) hv⟩
  · exact ⟨v, by rw [World.cell?_setCell_other (w := w) (a := a) (b := ⟨g, j, none⟩) (v := u) e]; exact hv⟩

/-- A type of structs: how many cells one has, and what cells stand for in a world. -/
structure Ty (α : Type) where
  size : Nat
  rep : World → List Value → α → List Nat → Prop
  len : ∀ {w : World} {cs : List Value} {x : α} {fp : List Nat}, rep w cs x fp → cs.length = size
  lt : ∀ {w : World} {cs : List Value} {x : α} {fp : List Nat}, rep w cs x fp → ∀ k ∈ fp, k < w.heap.size
  keep : ∀ {w w' : World} {cs : List Value} {x : α} {fp : List Nat}, rep w cs x fp → (∀ k ∈ fp, w'.heap[k]? = w.heap[k]?) → rep w' cs x fp

/-- The cells cs stand in block g from o on. -/
def CellsAt (w : World) (g o : Nat) (cs : List Value) : Prop := ∀ j (hj : j < cs.length), w.cell? ⟨g, o + j, none⟩ = some cs[j]
theorem CellsAt.keep {w w' : World} {g o : Nat} {cs : List Value} (h : CellsAt w g o cs) (hk : w'.heap[g]? = w.heap[g]?) : CellsAt w' g o cs :=
  fun j hj => (World.cell?_of_block (a := ⟨g, o + j, none⟩) hk).trans (h j hj)

/-- The elements l stand in block g from number k on; fp: the blocks that they reach. -/
def Elems {α : Type} (E : Ty α) (w : World) (g : Nat) : Nat → List α → List Nat → Prop
  | _, [], fp => fp = []
  | k, x :: l, fp => ∃ cs f1 f2, fp = f1 ++ f2 ∧ CellsAt w g (k * E.size) cs ∧ E.rep w cs x f1 ∧ Elems E w g (k + 1) l f2
theorem Elems.lt {α : Type} {E : Ty α} {w : World} {g : Nat} : ∀ {l : List α} {k : Nat} {fp : List Nat}, Elems E w g k l fp → ∀ b ∈ fp, b < w.heap.size
  | [], _, fp, h, b, hb => by have e : fp = [] := h; rw [e] at hb; cases hb
  | x :: l, k, fp, ⟨cs, f1, f2, e, _, h1, h2⟩, b, hb => by
    rw [e, List.mem_append] at hb
    rcases hb with hb | hb
    · exact E.lt h1 b hb
    · exact Elems.lt h2 b hb
theorem Elems.keep {α : Type} {E : Ty α} {w w' : World} {g : Nat} (hg : w'.heap[g]? = w.heap[g]?) : ∀ {l : List α} {k : Nat} {fp : List Nat}, Elems E w g k l fp → (∀ b ∈ fp, w'.heap[b]? = w.heap[b]?) → Elems E w' g k l fp
  | [], _, _, h, _ => h
  | x :: l, k, fp, ⟨cs, f1, f2, e, hc, h1, h2⟩, hk => by
    subst e
    exact ⟨cs, f1, f2, rfl, hc.keep hg, E.keep h1 (fun b hb => hk b (List.mem_append_left _ hb)), Elems.keep hg h2 (fun b hb => hk b (List.mem_append_right _ hb))⟩
theorem Elems.get {α : Type} {E : Ty α} {w : World} {g : Nat} : ∀ {l : List α} {k : Nat} {fp : List Nat}, Elems E w g k l fp → ∀ i (hi : i < l.length), ∃ cs f, CellsAt w g ((k + i) * E.size) cs ∧ E.rep w cs l[i] f ∧ ∀ b ∈ f, b ∈ fp
  | x :: l, k, fp, ⟨cs, f1, f2, e, hc, h1, h2⟩, 0, _ => ⟨cs, f1, hc, h1, fun b hb => by rw [e]; exact List.mem_append_left _ hb⟩
  | x :: l, k, fp, ⟨cs, f1, f2, e, hc, h1, h2⟩, i + 1, hi => by
    obtain ⟨cs', f', a, b, c⟩ := Elems.get h2 i (by simpa using hi)
    refine ⟨cs', f', ?_, b, fun d hd => by rw [e]; exact List.mem_append_right _ (c d hd)⟩
    rw [show k + (i + 1) = k + 1 + i by omega]; exact a
theorem Elems.flat {α : Type} {E : Ty α} {w : World} {g : Nat} {C : α → List Value} (hE : ∀ x, E.rep w (C x) x []) : ∀ {l : List α} {k : Nat}, (∀ i (hi : i < l.length), CellsAt w g ((k + i) * E.size) (C l[i])) → Elems E w g k l []
  | [], _, _ => rfl
  | x :: l, k, h => ⟨C x, [], [], rfl, h 0 (by simp), hE x, Elems.flat hE fun i hi => by
      have := h (i + 1) (by simpa using hi)
      rw [show k + (i + 1) = k + 1 + i by omega] at this
      exact this⟩

/-- The slice v holds l; fp: its block and those that its elements reach. -/
def SliceRep {α : Type} (E : Ty α) (w : World) (v : Value) (l : List α) (fp : List Nat) : Prop :=
  (l = [] ∧ fp = [] ∧ (v = .slice none 0 0 ∨ ∃ g cap, v = .slice (some ⟨g, 0, none⟩) 0 cap)) ∨ ∃ g cap f, v = .slice (some ⟨g, 0, none⟩) l.length cap ∧ l.length ≤ cap ∧ OwnBlk w g (l.length * E.size) ∧ Elems E w g 0 l f ∧ fp = g :: f
theorem SliceRep.lt {α : Type} {E : Ty α} {w : World} {v : Value} {l : List α} {fp : List Nat} (h : SliceRep E w v l fp) : ∀ k ∈ fp, k < w.heap.size := by
  rcases h with ⟨_, rfl, _⟩ | ⟨g, cap, f, _, _, ho, he, rfl⟩
  · intro k hk; cases hk
  · intro k hk
    rcases List.mem_cons.1 hk with rfl | hk
    · exact ho.1
    · exact he.lt k hk
theorem SliceRep.keep {α : Type} {E : Ty α} {w w' : World} {v : Value} {l : List α} {fp : List Nat} (h : SliceRep E w v l fp) (hk : ∀ k ∈ fp, w'.heap[k]? = w.heap[k]?) : SliceRep E w' v l fp := by
  rcases h with h | ⟨g, cap, f, hv, hc, ho, he, rfl⟩
  · exact .inl h
  · have hg := hk g (by simp)
    exact .inr ⟨g, cap, f, hv, hc, ho.keep hg, Elems.keep hg he (fun b hb => hk b (by simp [hb])), rfl⟩
theorem SliceRep.chg {α : Type} {E : Ty α} {w w' : World} {v : Value} {l : List α} {fp gp : List Nat} (h : SliceRep E w v l fp) (hc : Chg gp w w') (hd : ∀ k ∈ fp, k ∉ gp) : SliceRep E w' v l fp :=
  h.keep fun k hk => hc.block k (h.lt k hk) (hd k hk)
theorem SliceRep.step {α : Type} {E : Ty α} {w w' : World} {v : Value} {l : List α} {fp : List Nat} (h : SliceRep E w v l fp) (hb : Below w.heap.size w w') : SliceRep E w' v l fp :=
  h.keep fun k hk => hb.block k (h.lt k hk)
theorem SliceRep.set {α : Type} {E : Ty α} {w : World} {v : Value} {l : List α} {fp : List Nat} (h : SliceRep E w v l fp) (a : Addr) (u : Value) (ha : ∀ k ∈ fp, k ≠ a.block) : SliceRep E (w.setCell a u) v l fp :=
  h.keep fun k hk => Below.heap_setCell _ _ _ _ (ha k hk)
theorem SliceRep.val {α : Type} {E : Ty α} {w : World} {v : Value} {l : List α} {fp : List Nat} (h : SliceRep E w v l fp) : ∃ ao cap, v = .slice ao l.length cap := by
  rcases h with ⟨rfl, _, rfl | ⟨ad, cap, rfl⟩⟩ | ⟨g, cap, f, rfl, _⟩
  · exact ⟨_, _, rfl⟩
  · exact ⟨_, _, rfl⟩
  · exact ⟨_, _, rfl⟩
end Go.Proofs.Ytcfcohnkkgickaa

namespace Go.Proofs.Ytcfcohnkkgickaa
open Go.RowKit Num

def rowTy : Ty Rw where
  size := 5
  rep := fun _ cs r fp => cs = rc r ∧ fp = []
  len := fun h => by rw [h.1]; rfl
  lt := fun h k hk => by rw [h.2] at hk; cases hk
  keep := fun h _ => h

/-- Rows as a function. -/
def Rn (l : List Rw) : Nat → Rw := fun k => l.getD k ⟨0, 0, 0, 0, false⟩
theorem Rn_at {l : List Rw} {k : Nat} (hk : k < l.length) : Rn l k = l[k] := by unfold Rn; rw [List.getD_eq_getElem?_getD, List.getElem?_eq_getElem hk]; rfl

theorem rowIn_of_cells {w : World} {g k : Nat} {r : Rw} (h : CellsAt w g (k * 5) (rc r)) : RowIn w g k r :=
  ⟨h 0 (by simp [rc]), h 1 (by simp [rc]), h 2 (by simp [rc]), h 3 (by simp [rc]), h 4 (by simp [rc])⟩
theorem cells_of_rowIn {w : World} {g k : Nat} {r : Rw} (h : RowIn w g k r) : CellsAt w g (k * 5) (rc r) := by
  obtain ⟨h0, h1, h2, h3, h4⟩ := h
  intro j hj
  match j, hj with
  | 0, _ => exact h0
  | 1, _ => exact h1
  | 2, _ => exact h2
  | 3, _ => exact h3
  | 4, _ => exact h4
  | j + 5, hj => exact absurd (show j + 5 < 5 from hj) (by omega)

/-- A slice of rows, opened. -/
theorem rows_open {w : World} {v : Value} {l : List Rw} {fp : List Nat} (h : SliceRep rowTy w v l fp) : ∃ ao cap, v = .slice ao l.length cap ∧ l.length ≤ cap ∧ RowsVal w ao l.length (Rn l) := by
  rcases h with ⟨rfl, _, rfl | ⟨ad, cap, rfl⟩⟩ | ⟨g, cap, f, rfl, hc, ho, he, _⟩
  · exact ⟨_, _, rfl, Nat.zero_le _, .inl rfl⟩
  · exact ⟨_, _, rfl, Nat.zero_le _, .inl rfl⟩
  · refine ⟨_, cap, rfl, hc, .inr ⟨g, rfl, ho.1, fun k hk => ?_⟩⟩
    obtain ⟨cs, f', hc, ⟨rfl, _⟩, _⟩ := he.get k hk
    rw [Rn_at hk]
    rw [Nat.zero_add] at hc
    exact rowIn_of_cells hc

theorem rows_shut {w : World} {g cap : Nat} {l : List Rw} (hc : l.length ≤ cap) (ho : OwnBlk w g (l.length * 5)) (hr : ∀ k (hk : k < l.length), RowIn w g k l[k]) : SliceRep rowTy w (.slice (some ⟨g, 0, none⟩) l.length cap) l [g] :=
  .inr ⟨g, cap, [], rfl, hc, ho, Elems.flat (E := rowTy) (C := rc) (fun _ => ⟨rfl, rfl⟩) (fun i hi => by rw [Nat.zero_add]; exact cells_of_rowIn (hr i hi)), rfl⟩

/-- Rows that a call owns. -/
theorem OwnR.rep {w : World} {B : Nat} {v : Value} {l : List Rw} (h : OwnR w B v l) : ∃ fp, SliceRep rowTy w v l fp ∧ (∀ k ∈ fp, B ≤ k) ∧ fp.Nodup := by
  by_cases hn : l.length = 0
  · have hl := List.eq_nil_of_length_eq_zero hn
    subst hl
    rcases h.2 with ⟨rfl, _⟩ | ⟨g, cap, cur, rfl, _⟩
    · exact ⟨[], .inl ⟨rfl, rfl, .inl rfl⟩, (fun k hk => by cases hk), List.nodup_nil⟩
    · exact ⟨[], .inl ⟨rfl, rfl, .inr ⟨_, cap, rfl⟩⟩, (fun k hk => by cases hk), List.nodup_nil⟩
  · obtain ⟨g, cap, rfl, hb, hg, hc, hr⟩ := h.form (by omega)
    refine ⟨[g], rows_shut hc ⟨hg, fun j hj => ⟨?_, World.ownsRow.frozenAt h j⟩⟩ hr, (fun k hk => by simp at hk; omega), by simp⟩
    rw [World.ownsRow.cellAt h j hj]
    exact ⟨_, List.getElem?_eq_getElem (by rw [rcells_len]; exact hj)⟩

/-- The first n rows of R as a list. -/
def lst (n : Nat) (R : Nat → Rw) : List Rw := (List.range n).map R
theorem lst_len (n : Nat) (R : Nat → Rw) : (lst n R).length = n := by unfold lst; simp
theorem lst_at (n : Nat) (R : Nat → Rw) (k : Nat) (hk : k < (lst n R).length) : (lst n R)[k] = R k := by
  have h : ∀ hk' : k < ((List.range n).map R).length, ((List.range n).map R)[k] = R k := fun hk' => by rw [List.getElem_map, List.getElem_range]
  exact h hk
theorem Rn_lst {n : Nat} {R : Nat → Rw} {k : Nat} (hk : k < n) : Rn (lst n R) k = R k := by rw [Rn_at (by rw [lst_len]; exact hk), lst_at]
theorem lst_Rn (l : List Rw) : lst l.length (Rn l) = l := by
  apply List.ext_getElem
  · rw [lst_len]
  · intro k h1 h2
    rw [lst_at, Rn_at h2]

theorem RowsTo.rep {W w : World} {g n cap : Nat} {R : Nat → Rw} (h : RowsTo W w g n n R) (hc : n ≤ cap) : SliceRep rowTy w (.slice (some ⟨g, 0, none⟩) n cap) (lst n R) [g] := by
  have := rows_shut (w := w) (g := g) (cap := cap) (l := lst n R) (by rw [lst_len]; exact hc) (by rw [lst_len]; exact ⟨h.2.2.1, h.2.2.2.1⟩) (fun k hk => by rw [lst_at]; exact h.2.2.2.2 k (by rwa [lst_len] at hk))
  rwa [lst_len] at this

/-- The row that the laws write as number i, from k on. -/
def markRw (k : Int) : Rw := ⟨k, k + 1, k + 1 + 1, k + 1 + 1 + 1, ((k + 1 + 1 + 1 + 1) % 3 == 0)⟩
def markAt (k : Int) (i : Nat) : Rw := markRw (k + 5 * i)

/-- The first k rows of block g are marked; nothing else has changed since W. -/
def MarkTo (W w : World) (g n k : Nat) (R : Nat → Rw) : Prop := Chg [g] W w ∧ OwnBlk w g (n * 5) ∧ ∀ m, m < k → RowIn w g m (R m)
theorem MarkTo.set {W w : World} {g n k : Nat} {R : Nat → Rw} (h : MarkTo W w g n k R) (o : Nat) (u : Value) (ho : k * 5 ≤ o) : MarkTo W (w.setCell ⟨g, o, none⟩ u) g n k R := by
  obtain ⟨h1, h2, h3⟩ := h
  refine ⟨h1.set (by simp) u, h2.set _ u, fun m hm => ?_⟩
  obtain ⟨r0, r1, r2, r3, r4⟩ := h3 m hm
  have oth : ∀ j, j < k * 5 → (w.setCell ⟨g, o, none⟩ u).cell? ⟨g, j, none⟩ = w.cell? ⟨g, j, none⟩ := fun j hj => World.cell?_setCell_other (w := w) (a := ⟨g, o, none⟩) (b := ⟨g, j, none⟩) (v := u) (fun e => by simp only [Addr.mk.injEq, true_and, and_true] at e; omega)
  exact ⟨by rw [oth _ (by omega)]; exact r0, by rw [oth _ (by omega)]; exact r1, by rw [oth _ (by omega)]; exact r2, by rw [oth _ (by omega)]; exact r3, by rw [oth _ (by omega)]; exact r4⟩
theorem MarkTo.put {W w : World} {g n k : Nat} {R : Nat → Rw} (h : MarkTo W w g n k R) (hk : k < n) :
    MarkTo W (((((w.setCell ⟨g, k * 5, none⟩ (.int .i64 (R k).i)).setCell ⟨g, k * 5 + 1, none⟩ (.int .i64 (R k).g)).setCell ⟨g, k * 5 + 2, none⟩ (.int .i64 (R k).y)).setCell ⟨g, k * 5 + 3, none⟩ (.int .i64 (R k).x)).setCell ⟨g, k * 5 + 4, none⟩ (.bool (R k).nl)) g n (k + 1) R := by
  have hs := ((((h.set (k * 5) (.int .i64 (R k).i) (by omega)).set (k * 5 + 1) (.int .i64 (R k).g) (by omega)).set (k * 5 + 2) (.int .i64 (R k).y) (by omega)).set (k * 5 + 3) (.int .i64 (R k).x) (by omega)).set (k * 5 + 4) (.bool (R k).nl) (by omega)
  refine ⟨hs.1, hs.2.1, fun m hm => ?_⟩
  by_cases e : m < k
  · exact hs.2.2 m e
  · obtain rfl : m = k := by omega
    have a1 := h.set (m * 5) (.int .i64 (R m).i) (by omega)
    have a2 := a1.set (m * 5 + 1) (.int .i64 (R m).g) (by omega)
    have a3 := a2.set (m * 5 + 2) (.int .i64 (R m).y) (by omega)
    have a4 := a3.set (m * 5 + 3) (.int .i64 (R m).x) (by omega)
    refine ⟨?_, ?_, ?_, ?_, ?_⟩
    · rw [set_other (by omega), set_other (by omega), set_other (by omega), set_other (by omega)]
      exact set_same (h.2.1.2 _ (by omega)).1
    · rw [set_other (by omega), set_other (by omega), set_other (by omega)]
      exact set_same (a1.2.1.2 _ (by omega)).1
    · rw [set_other (by omega), set_other (by omega)]
      exact set_same (a2.2.1.2 _ (by omega)).1
    · rw [set_other (by omega)]
      exact set_same (a3.2.1.2 _ (by omega)).1
    · exact set_same (a4.2.1.2 _ (by omega)).1
end Go.Proofs.Ytcfcohnkkgickaa

namespace Go.Proofs.Ytcfcohnkkgickaa
open Go.RowKit Num

set_option maxRecDepth 8000 in
set_option maxHeartbeats 3200000 in
theorem law_markRs (g n cap : Nat) (k0 : Int) (w : World) (hn : n ≤ 1099511627776) (hk0 : 0 ≤ k0) (hk1 : k0 ≤ 1099511627776) (ho : OwnBlk w g (n * 5)) :
    Calls Try.prog 115 #[.slice (some ⟨g, 0, none⟩) n cap, .int .i64 k0] w fun e w' => e = .returned (.int .i64 (k0 + 5 * (n : Int))) ∧ MarkTo w w' g n n (markAt k0) := by
  have HM : Hid (MarkTo w w g n 0 (markAt k0)) := (⟨Chg.refl _ _, ho, fun m hm => by omega⟩ : MarkTo w w g n 0 (markAt k0))
  clear ho
  have hnI : (n : Int) ≤ 1099511627776 := by omega
  go_enter Try.func115, Try.ntmps115
  go_wp2_with fail
  go_loopw [1, 5] (fun kv iv wr => ∃ i : Nat, i ≤ n ∧ iv = .int .i64 i ∧ kv = .int .i64 (k0 + 5 * (i : Int)) ∧ Hid (MarkTo w wr g n i (markAt k0))) (fun _ iv _ => n - (intOf iv).toNat)
  case atStart => exact ⟨0, Nat.zero_le _, rfl, by simp, HM.out⟩
  case round =>
    obtain ⟨i, hi, rfl, rfl, HR⟩ := hrel
    obtain ⟨kk, hkk⟩ : ∃ kk, kk = k0 + 5 * (i : Int) := ⟨_, rfl⟩
    have b0 : 0 ≤ kk := by omega
    have b1 : kk ≤ 6597069766656 := by omega
    by_cases hlt : i < n
    · have hkI : (i : Int) < (n : Int) := by omega
      have hcell := HR.out.2.1.2
      obtain ⟨⟨v0, e0⟩, f0⟩ := hcell (i * 5) (by omega)
      obtain ⟨⟨v1, e1⟩, f1⟩ := hcell (i * 5 + 1) (by omega)
      obtain ⟨⟨v2, e2⟩, f2⟩ := hcell (i * 5 + 2) (by omega)
      obtain ⟨⟨v3, e3⟩, f3⟩ := hcell (i * 5 + 3) (by omega)
      obtain ⟨⟨v4, e4⟩, f4⟩ := hcell (i * 5 + 4) (by omega)
      clear hcell
      have HP := Lib.hid (HR.out.put hlt)
      have hR : markAt k0 i = markRw kk := by rw [hkk]; rfl
      rw [hR] at HP
      have HK := Lib.hid hkk
      rw [← hkk]
      clear hkk hR
      go_wp2
      go_roundw
      case rel => exact ⟨i + 1, by omega, by go_num, int_eq (by have := HK.out; omega), HP.out⟩
      case measure => simp [intOf]; omega
    · obtain rfl : i = n := by omega
      have hsd : decide ((i : Int) < (i : Int)) = false := decide_eq_false (by omega)
      rw [← hkk]
      have HK := Lib.hid hkk
      clear hkk
      go_wp2
      go_ret
      exact ⟨ret_int HK.out, HR.out⟩

theorem law_markRs0 (ao : Option Addr) (cap : Nat) (k0 : Int) (w : World) :
    Calls Try.prog 115 #[.slice ao 0 cap, .int .i64 k0] w fun e w' => e = .returned (.int .i64 k0) ∧ w = w' := by
  go_enter Try.func115, Try.ntmps115
  go_wp2_with fail
  go_loop [1, 5] (fun kv iv => kv = .int .i64 k0 ∧ iv = .int .i64 0) (fun _ _ => 0)
  case atStart => exact ⟨rfl, rfl⟩
  case round =>
    obtain ⟨rfl, rfl⟩ := hrel
    go_wp2
    go_ret
    exact ⟨rfl, rfl⟩

/-- Rows marked from k on. -/
def marks (k : Int) (n : Nat) : List Rw := lst n (markAt k)
theorem marks_len (k : Int) (n : Nat) : (marks k n).length = n := lst_len n _

/-- Marking rows: whatever slice they lie in. -/
theorem law_markRsV (v : Value) (l : List Rw) (fp : List Nat) (k0 : Int) (w : World) (hn : l.length ≤ 1099511627776) (hk0 : 0 ≤ k0) (hk1 : k0 ≤ 1099511627776) (hv : SliceRep rowTy w v l fp) :
    Calls Try.prog 115 #[v, .int .i64 k0] w fun e w' => e = .returned (.int .i64 (k0 + 5 * (l.length : Int))) ∧ Chg fp w w' ∧ SliceRep rowTy w' v (marks k0 l.length) fp := by
  rcases hv with ⟨rfl, rfl, hv⟩ | ⟨g, cap, f, rfl, hc, ho, he, rfl⟩
  · have hv' := hv
    obtain ⟨ao, cap, rfl⟩ : ∃ ao cap, v = .slice ao 0 cap := by rcases hv with rfl | ⟨ad, cap, rfl⟩ <;> exact ⟨_, _, rfl⟩
    refine (law_markRs0 ao cap k0 w).mono ?_
    rintro e w' ⟨rfl, rfl⟩
    exact ⟨ret_int (by simp), Chg.refl _ _, .inl ⟨rfl, rfl, hv'⟩⟩
  · refine (law_markRs g l.length cap k0 w hn hk0 hk1 ho).mono ?_
    rintro e w' ⟨rfl, h1, h2, h3⟩
    have hf : f = [] := by
      have : ∀ (l : List Rw) (k : Nat) (f : List Nat), Elems rowTy w g k l f → f = [] := fun l => by
        induction l with
        | nil => intro k f h; exact h
        | cons x l ih =>
          rintro k f ⟨cs, f1, f2, rfl, _, ⟨_, rfl⟩, h2⟩
          rw [ih _ _ h2]; rfl
      exact this l 0 f he
    subst hf
    refine ⟨rfl, h1, ?_⟩
    have hs := rows_shut (w := w') (g := g) (cap := cap) (l := marks k0 l.length) (by rw [marks_len]; exact hc) (by rw [marks_len]; exact h2) (fun i hi => by rw [show (marks k0 l.length)[i] = markAt k0 i from lst_at _ _ i hi]; exact h3 i (by rwa [marks_len] at hi))
    rwa [marks_len] at hs

set_option maxRecDepth 8000 in
set_option maxHeartbeats 3200000 in
theorem law_heldRs (ao : Option Addr) (n cap : Nat) (k0 : Int) (w : World) (hn : n ≤ 1099511627776) (hk0 : 0 ≤ k0) (hk1 : k0 ≤ 1099511627776) (hV : RowsVal w ao n (markAt k0)) :
    Calls Try.prog 134 #[.slice ao n cap, .int .i64 k0] w fun e w' => e = .returned (.int .i64 (k0 + 5 * (n : Int))) ∧ w = w' := by
  have HO := Lib.hid hV
  clear hV
  have hnI : (n : Int) ≤ 1099511627776 := by omega
  go_enter Try.func134, Try.ntmps134
  go_wp2_with fail
  go_loop [1, 5] (fun kv iv => ∃ i : Nat, i ≤ n ∧ iv = .int .i64 i ∧ kv = .int .i64 (k0 + 5 * (i : Int))) (fun _ iv => n - (intOf iv).toNat)
  case atStart => exact ⟨0, Nat.zero_le _, rfl, by simp⟩
  case round =>
    obtain ⟨i, hi, rfl, rfl⟩ := hrel
    obtain ⟨kk, hkk⟩ : ∃ kk, kk = k0 + 5 * (i : Int) := ⟨_, rfl⟩
    have b0 : 0 ≤ kk := by omega
    have b1 : kk ≤ 6597069766656 := by omega
    by_cases hlt : i < n
    · have hkI : (i : Int) < (n : Int) := by omega
      obtain ⟨g, rfl, hg, hR⟩ : ∃ g, ao = some ⟨g, 0, none⟩ ∧ g < w.heap.size ∧ ∀ k, k < n → RowIn w g k (markAt k0 k) := HO.out.resolve_left (by omega)
      have hr := hR i hlt
      rw [show markAt k0 i = markRw kk by rw [hkk]; rfl] at hr
      obtain ⟨c0, c1, c2, c3, c4⟩ : w.cell? ⟨g, i * 5, none⟩ = some (.int .i64 kk) ∧ w.cell? ⟨g, i * 5 + 1, none⟩ = some (.int .i64 (kk + 1)) ∧ w.cell? ⟨g, i * 5 + 2, none⟩ = some (.int .i64 (kk + 1 + 1)) ∧ w.cell? ⟨g, i * 5 + 3, none⟩ = some (.int .i64 (kk + 1 + 1 + 1)) ∧ w.cell? ⟨g, i * 5 + 4, none⟩ = some (.bool ((kk + 1 + 1 + 1 + 1) % 3 == 0)) := hr
      have HK := Lib.hid hkk
      rw [← hkk]
      clear hkk hR
      go_wp2
      go_round
      case rel => exact ⟨i + 1, by omega, by go_num, int_eq (by have := HK.out; omega)⟩
      case measure => simp [intOf]; omega
    · obtain rfl : i = n := by omega
      have hsd : decide ((i : Int) < (i : Int)) = false := decide_eq_false (by omega)
      rw [← hkk]
      have HK := Lib.hid hkk
      clear hkk
      go_wp2
      go_ret
      exact ⟨ret_int HK.out, rfl⟩

theorem law_heldRsV (v : Value) (n : Nat) (fp : List Nat) (k0 : Int) (w : World) (hn : n ≤ 1099511627776) (hk0 : 0 ≤ k0) (hk1 : k0 ≤ 1099511627776) (hv : SliceRep rowTy w v (marks k0 n) fp) :
    Calls Try.prog 134 #[v, .int .i64 k0] w fun e w' => e = .returned (.int .i64 (k0 + 5 * (n : Int))) ∧ w = w' := by
  obtain ⟨ao, cap, rfl, _, h⟩ := rows_open hv
  rw [marks_len] at h ⊢
  refine law_heldRs ao n cap k0 w hn hk0 hk1 ?_
  rcases h with h | ⟨g, e, hg, h⟩
  · exact .inl h
  · exact .inr ⟨g, e, hg, fun k hk => by rw [← Rn_lst (R := markAt k0) hk]; exact h k hk⟩
end Go.Proofs.Ytcfcohnkkgickaa

namespace Go.Proofs.Ytcfcohnkkgickaa
open Go.RowKit

/-- A thing of a call's own: the blocks that it reaches, and what holds of them. -/
structure Own where
  fp : List Nat
  holds : World → Prop
  lt : ∀ {w : World}, holds w → ∀ k ∈ fp, k < w.heap.size
  keep : ∀ {w w' : World}, holds w → (∀ k ∈ fp, w'.heap[k]? = w.heap[k]?) → holds w'

/-- A slice of one's own. -/
def ownS {α : Type} (E : Ty α) (v : Value) (l : List α) (fp : List Nat) : Own := ⟨fp, fun w => SliceRep E w v l fp, fun h => h.lt, fun h => h.keep⟩

def Inv (W w : World) (L : List (Addr × Value)) (S : List Own) : Prop :=
  Kept W w L ∧ (∀ s ∈ S, s.holds w ∧ ∀ k ∈ s.fp, W.heap.size ≤ k) ∧ S.Pairwise (fun a b => ∀ k ∈ a.fp, k ∉ b.fp) ∧ ∀ p ∈ L, ∀ s ∈ S, p.1.block ∉ s.fp

theorem Inv.of_kept {W w : World} {L : List (Addr × Value)} (h : Kept W w L) : Inv W w L [] := ⟨h, (fun s hs => by cases hs), List.Pairwise.nil, fun _ _ s hs => by cases hs⟩
theorem Inv.below {W w : World} {L : List (Addr × Value)} {S : List Own} (h : Inv W w L S) : Below W.heap.size W w := h.1.1
theorem Inv.get {W w : World} {L : List (Addr × Value)} {S : List Own} (h : Inv W w L S) (i : Nat) {a : Addr} {v : Value} (hi : L[i]? = some (a, v)) : w.cell? a = some v := h.1.get i hi
theorem Inv.fz {W w : World} {L : List (Addr × Value)} {S : List Own} (h : Inv W w L S) (i : Nat) {a : Addr} {v : Value} (hi : L[i]? = some (a, v)) : w.frozen? a = false := h.1.fz i hi
theorem Inv.lt {W w : World} {L : List (Addr × Value)} {S : List Own} (h : Inv W w L S) (i : Nat) {a : Addr} {v : Value} (hi : L[i]? = some (a, v)) : a.block < w.heap.size := h.1.lt i hi
theorem Inv.at {W w : World} {L : List (Addr × Value)} {S : List Own} (h : Inv W w L S) (i : Nat) {s : Own} (hi : S[i]? = some s) : s.holds w := (h.2.1 s (List.mem_of_getElem? hi)).1
theorem Inv.step {W w w' : World} {L : List (Addr × Value)} {S : List Own} (h : Inv W w L S) (hb : Below w.heap.size w w') : Inv W w' L S :=
  ⟨h.1.step hb, fun s hs => ⟨s.keep (h.2.1 s hs).1 (fun k hk => hb.block k (s.lt (h.2.1 s hs).1 k hk)), (h.2.1 s hs).2⟩, h.2.2.1, h.2.2.2⟩
theorem Inv.drew {W w : World} {L : List (Addr × Value)} {S : List Own} (h : Inv W w L S) : Inv W w.drew L S := h.step (Below.refl _ _).drew
theorem Inv.cons2 {W w : World} {L : List (Addr × Value)} {S : List Own} (h : Inv W w L S) {w' : World} {N : Nat} {x y : Value} (hN : w.heap.size ≤ N) (hb : Below w.heap.size w w') (hk : Kept W w' ((⟨N, 0, none⟩, x) :: (⟨N, 1, none⟩, y) :: L)) : Inv W w' ((⟨N, 0, none⟩, x) :: (⟨N, 1, none⟩, y) :: L) S := by
  have h' := h.step hb
  refine ⟨hk, h'.2.1, h'.2.2.1, fun p hp s hs e => ?_⟩
  have hl := s.lt (h.2.1 s hs).1 _ e
  simp only [List.mem_cons] at hp
  rcases hp with rfl | rfl | hp
  · simp only at hl; omega
  · simp only at hl; omega
  · exact h.2.2.2 p hp s hs e
theorem Inv.alloc2 {W w : World} {L : List (Addr × Value)} {S : List Own} (h : Inv W w L S) (x y : Value) (t : TypeId) (N : Nat) (hN : w.heap.size = N) :
    Inv W (w.alloc (.cells #[x, y] t)) ((⟨N, 0, none⟩, x) :: (⟨N, 1, none⟩, y) :: L) S :=
  h.cons2 (Nat.le_of_eq hN) ((Below.refl _ _).alloc (Nat.le_refl _) _) (h.1.alloc2 x y t N hN)
/-- A thing that a call has made. -/
theorem Inv.own {W w w' : World} {L : List (Addr × Value)} {S : List Own} (h : Inv W w L S) (s : Own) (hb : Below w.heap.size w w') (hs : s.holds w') (hf : ∀ k ∈ s.fp, w.heap.size ≤ k) : Inv W w' L (s :: S) := by
  have h' := h.step hb
  refine ⟨h'.1, fun t ht => ?_, List.Pairwise.cons (fun t ht k hk e => ?_) h.2.2.1, fun p hp t ht e => ?_⟩
  · rcases List.mem_cons.1 ht with rfl | ht
    · exact ⟨hs, fun k hk => Nat.le_trans h.1.1.size (hf k hk)⟩
    · exact h'.2.1 t ht
  · have h1 := hf k hk
    have h2 := t.lt (h.2.1 t ht).1 k e
    omega
  · rcases List.mem_cons.1 ht with rfl | ht
    · have h1 := hf _ e
      have h2 := (h.1.2 p hp).1
      omega
    · exact h.2.2.2 p hp t ht e
/-- A thing of one's own that a call has written. -/
theorem Inv.chg {W w w' : World} {L : List (Addr × Value)} {S1 S2 : List Own} {s : Own} (h : Inv W w L (S1 ++ s :: S2)) (s' : Own) (hfp : s'.fp = s.fp) (hc : Chg s.fp w w') (hs : s'.holds w') : Inv W w' L (S1 ++ s' :: S2) := by
  obtain ⟨h1, h2, h3, h4⟩ := h
  have ms : s ∈ S1 ++ s :: S2 := by simp
  have hp := List.pairwise_append.1 h3
  have hp2 := List.pairwise_cons.1 hp.2.1
  have oth : ∀ t, t ∈ S1 ∨ t ∈ S2 → t.holds w' := fun t ht => by
    have mt : t ∈ S1 ++ s :: S2 := by rcases ht with ht | ht <;> simp [ht]
    refine t.keep (h2 t mt).1 (fun k hk => hc.block k (t.lt (h2 t mt).1 k hk) (fun e => ?_))
    rcases ht with ht | ht
    · exact hp.2.2 t ht s (by simp) k hk e
    · exact hp2.1 t ht k e hk
  refine ⟨h1.chg hc (h2 s ms).2 (fun p hpL => h4 p hpL s ms), fun t ht => ?_, ?_, fun p hpL t ht => ?_⟩
  · simp only [List.mem_append, List.mem_cons] at ht
    rcases ht with ht | rfl | ht
    · exact ⟨oth t (.inl ht), (h2 t (by simp [ht])).2⟩
    · exact ⟨hs, by rw [hfp]; exact (h2 s ms).2⟩
    · exact ⟨oth t (.inr ht), (h2 t (by simp [ht])).2⟩
  · refine List.pairwise_append.2 ⟨hp.1, List.pairwise_cons.2 ⟨fun t ht k hk => hp2.1 t ht k (by rw [← hfp]; exact hk), hp2.2⟩, fun a ha b hb => ?_⟩
    rcases List.mem_cons.1 hb with rfl | hb
    · intro k hk; rw [hfp]; exact hp.2.2 a ha s (by simp) k hk
    · exact hp.2.2 a ha b (by simp [hb])
  · simp only [List.mem_append, List.mem_cons] at ht
    rcases ht with ht | rfl | ht
    · exact h4 p hpL t (by simp [ht])
    · rw [hfp]; exact h4 p hpL s ms
    · exact h4 p hpL t (by simp [ht])
theorem Inv.subL {W w : World} {L L' : List (Addr × Value)} {S : List Own} (h : Inv W w L S) (hs : ∀ p ∈ L', p ∈ L) : Inv W w L' S := ⟨h.1.sub hs, h.2.1, h.2.2.1, fun p hp => h.2.2.2 p (hs p hp)⟩
theorem Kept.set2' {W w : World} {g : Nat} {v0 v1 : Value} {l : List (Addr × Value)} (h : Kept W w ((⟨g, 0, none⟩, v0) :: (⟨g, 1, none⟩, v1) :: l)) (x y : Value) (hW : W.heap.size ≤ g) (hl : ∀ c ∈ l, c.1.block ≠ g) :
    Kept W ((w.setCell ⟨g, 0, none⟩ x).setCell ⟨g, 1, none⟩ y) ((⟨g, 0, none⟩, x) :: (⟨g, 1, none⟩, y) :: l) := by
  have h1 := Kept.set (p := []) (q := (⟨g, 1, none⟩, v1) :: l) h x hW (by
    intro c hc
    simp only [List.nil_append, List.mem_cons] at hc
    rcases hc with rfl | hc
    · simp
    · intro e; exact hl c hc (by rw [e]))
  refine Kept.set (p := [(⟨g, 0, none⟩, x)]) (q := l) h1 y hW ?_
  intro c hc
  simp only [List.cons_append, List.nil_append, List.mem_cons] at hc
  rcases hc with rfl | hc
  · simp
  · intro e; exact hl c hc (by rw [e])
theorem Inv.set2 {W w : World} {g : Nat} {v0 v1 : Value} {L : List (Addr × Value)} {S : List Own} (h : Inv W w ((⟨g, 0, none⟩, v0) :: (⟨g, 1, none⟩, v1) :: L) S) (x y : Value) (hW : W.heap.size ≤ g) (hl : ∀ c ∈ L, c.1.block ≠ g) :
    Inv W ((w.setCell ⟨g, 0, none⟩ x).setCell ⟨g, 1, none⟩ y) ((⟨g, 0, none⟩, x) :: (⟨g, 1, none⟩, y) :: L) S := by
  have hn : ∀ s ∈ S, g ∉ s.fp := fun s hs => h.2.2.2 (⟨g, 0, none⟩, v0) (by simp) s hs
  refine ⟨h.1.set2' x y hW hl, fun s hs => ⟨s.keep (h.2.1 s hs).1 (fun k hk => ?_), (h.2.1 s hs).2⟩, h.2.2.1, fun p hp s hs => ?_⟩
  · have : k ≠ g := fun e => hn s hs (by rw [← e]; exact hk)
    rw [Below.heap_setCell _ _ _ _ this, Below.heap_setCell _ _ _ _ this]
  · simp only [List.mem_cons] at hp
    rcases hp with rfl | rfl | hp
    · exact hn s hs
    · exact hn s hs
    · exact h.2.2.2 p (by simp [hp]) s hs
end Go.Proofs.Ytcfcohnkkgickaa

namespace Go.Proofs.Ytcfcohnkkgickaa
open Go.RowKit Num

theorem law_eqBkO (id : Int) (ao bo : Option Addr) (n m c c' : Nat) (l : List Rw) (fp fp' : List Nat) (w : World) (hn : l.length ≤ 1048576) (h : SliceRep rowTy w (.slice ao n c) l fp) (h' : SliceRep rowTy w (.slice bo m c') l fp') :
    Calls Try.prog 53 #[.agg #[.int .i64 id, .slice ao n c], .agg #[.int .i64 id, .slice bo m c']] w fun e w' => e = .returned (.bool true) ∧ Below w.heap.size w w' := by
  obtain ⟨ao1, c1, e1, _, hV⟩ := rows_open h
  obtain ⟨bo1, c2, e2, _, hV'⟩ := rows_open h'
  simp only [Value.slice.injEq] at e1 e2
  obtain ⟨rfl, rfl, rfl⟩ := e1
  obtain ⟨rfl, rfl, rfl⟩ := e2
  exact law_eqBlkV id _ _ _ _ _ _ w hn hV hV'

/-- What toBlock leaves. -/
def ToBlk (id : Int) (n : Nat) (l : List Rw) (w : World) (e : Ending) (w' : World) : Prop :=
  ∃ g : Nat, e = .returned (.agg #[.int .i64 id, .slice (some ⟨g, 0, none⟩) n n]) ∧ SliceRep rowTy w' (.slice (some ⟨g, 0, none⟩) n n) l [g] ∧ w.heap.size ≤ g ∧ Below w.heap.size w w'
theorem law_toBlkO (id : Int) (ao : Option Addr) (n cap : Nat) (R : Nat → Rw) (w : World) (hn : n ≤ 1048576) (hA : RowsArg w ao n R) :
    Calls Try.prog 50 #[.agg #[.int .i64 id, .slice ao n cap]] w (ToBlk id n (lst n R) w) := by
  refine (law_toBlk id ao n cap R w hn hA).mono ?_
  rintro e w' ⟨g, rfl, h⟩
  exact ⟨g, rfl, h.rep (Nat.le_refl _), h.2.1, h.1⟩

theorem rows_headV {w : World} {g n c : Nat} {l : List Rw} {fp : List Nat} (h : SliceRep rowTy w (.slice (some ⟨g, 0, none⟩) n c) l fp) : n = l.length ∧ l.length ≤ c ∧ RowsVal w (some ⟨g, 0, none⟩) l.length (Rn l) := by
  obtain ⟨ao, c', e, hc, hV⟩ := rows_open h
  simp only [Value.slice.injEq] at e
  obtain ⟨rfl, rfl, rfl⟩ := e
  exact ⟨rfl, hc, hV⟩

theorem below_via {W w w1 : World} (hb : Below w.heap.size w w1) (h : Below W.heap.size W w) : Below W.heap.size W w1 := h.trans (hb.mono h.size)

/-! What a region keeps against the world at its head: two, four, seven loaded cells. -/
theorem k2_at {W w w' : World} {a0 a1 : Addr} {v0 v1 : Value} {l : List (Addr × Value)} (h : Kept W w ((a0, v0) :: (a1, v1) :: l)) (hb : Below w.heap.size w w') :
    w'.cell? a0 = some v0 ∧ w'.cell? a1 = some v1 ∧ Below w.heap.size w w' :=
  have k := h.step hb
  ⟨k.get 0 rfl, k.get 1 rfl, hb⟩
theorem k2_keep {W w w' w1 : World} {a0 a1 : Addr} {v0 v1 : Value} {l : List (Addr × Value)} (h : Kept W w ((a0, v0) :: (a1, v1) :: l)) (q : w'.cell? a0 = some v0 ∧ w'.cell? a1 = some v1 ∧ Below w.heap.size w w') (hb : Below w'.heap.size w' w1) :
    w1.cell? a0 = some v0 ∧ w1.cell? a1 = some v1 ∧ Below w.heap.size w w1 := k2_at h (q.2.2.trans (hb.mono q.2.2.size))
theorem k2_alloc {W w w' : World} {a0 a1 : Addr} {v0 v1 : Value} {l : List (Addr × Value)} {o : Obj} (h : Kept W w ((a0, v0) :: (a1, v1) :: l)) (q : w'.cell? a0 = some v0 ∧ w'.cell? a1 = some v1 ∧ Below w.heap.size w w') :
    (w'.alloc o).cell? a0 = some v0 ∧ (w'.alloc o).cell? a1 = some v1 ∧ Below w.heap.size w (w'.alloc o) := k2_at h (q.2.2.alloc q.2.2.size o)
theorem k2_set {W w w' : World} {a0 a1 : Addr} {v0 v1 x y : Value} {g : Nat} {l : List (Addr × Value)} (h : Kept W w ((a0, v0) :: (a1, v1) :: l)) (q : w'.cell? a0 = some v0 ∧ w'.cell? a1 = some v1 ∧ Below w.heap.size w w') (hg : w.heap.size ≤ g) :
    ((w'.setCell ⟨g, 0, none⟩ x).setCell ⟨g, 1, none⟩ y).cell? a0 = some v0 ∧ ((w'.setCell ⟨g, 0, none⟩ x).setCell ⟨g, 1, none⟩ y).cell? a1 = some v1 ∧ Below w.heap.size w ((w'.setCell ⟨g, 0, none⟩ x).setCell ⟨g, 1, none⟩ y) := k2_at h ((q.2.2.setCell hg x).setCell hg y)
theorem k2_b {w w' : World} {p0 p1 : Prop} (q : p0 ∧ p1 ∧ Below w.heap.size w w') : Below w.heap.size w w' := q.2.2
theorem k7_at {W w w' : World} {a0 a1 a2 a3 a4 a5 a6 : Addr} {v0 v1 v2 v3 v4 v5 v6 : Value} {l : List (Addr × Value)} (h : Kept W w ((a0, v0) :: (a1, v1) :: (a2, v2) :: (a3, v3) :: (a4, v4) :: (a5, v5) :: (a6, v6) :: l)) (hb : Below w.heap.size w w') :
    w'.cell? a0 = some v0 ∧ w'.cell? a1 = some v1 ∧ w'.cell? a2 = some v2 ∧ w'.cell? a3 = some v3 ∧ w'.cell? a4 = some v4 ∧ w'.cell? a5 = some v5 ∧ w'.cell? a6 = some v6 ∧ Below w.heap.size w w' :=
  have k := h.step hb
  ⟨k.get 0 rfl, k.get 1 rfl, k.get 2 rfl, k.get 3 rfl, k.get 4 rfl, k.get 5 rfl, k.get 6 rfl, hb⟩
theorem k7_keep {W w w' w1 : World} {a0 a1 a2 a3 a4 a5 a6 : Addr} {v0 v1 v2 v3 v4 v5 v6 : Value} {l : List (Addr × Value)} (h : Kept W w ((a0, v0) :: (a1, v1) :: (a2, v2) :: (a3, v3) :: (a4, v4) :: (a5, v5) :: (a6, v6) :: l)) (q : w'.cell? a0 = some v0 ∧ w'.cell? a1 = some v1 ∧ w'.cell? a2 = some v2 ∧ w'.cell? a3 = some v3 ∧ w'.cell? a4 = some v4 ∧ w'.cell? a5 = some v5 ∧ w'.cell? a6 = some v6 ∧ Below w.heap.size w w') (hb : Below w'.heap.size w' w1) :
    w1.cell? a0 = some v0 ∧ w1.cell? a1 = some v1 ∧ w1.cell? a2 = some v2 ∧ w1.cell? a3 = some v3 ∧ w1.cell? a4 = some v4 ∧ w1.cell? a5 = some v5 ∧ w1.cell? a6 = some v6 ∧ Below w.heap.size w w1 := k7_at h (q.2.2.2.2.2.2.2.trans (hb.mono q.2.2.2.2.2.2.2.size))
theorem k7_alloc {W w w' : World} {a0 a1 a2 a3 a4 a5 a6 : Addr} {v0 v1 v2 v3 v4 v5 v6 : Value} {l : List (Addr × Value)} {o : Obj} (h : Kept W w ((a0, v0) :: (a1, v1) :: (a2, v2) :: (a3, v3) :: (a4, v4) :: (a5, v5) :: (a6, v6) :: l)) (q : w'.cell? a0 = some v0 ∧ w'.cell? a1 = some v1 ∧ w'.cell? a2 = some v2 ∧ w'.cell? a3 = some v3 ∧ w'.cell? a4 = some v4 ∧ w'.cell? a5 = some v5 ∧ w'.cell? a6 = some v6 ∧ Below w.heap.size w w') :
    (w'.alloc o).cell? a0 = some v0 ∧ (w'.alloc o).cell? a1 = some v1 ∧ (w'.alloc o).cell? a2 = some v2 ∧ (w'.alloc o).cell? a3 = some v3 ∧ (w'.alloc o).cell? a4 = some v4 ∧ (w'.alloc o).cell? a5 = some v5 ∧ (w'.alloc o).cell? a6 = some v6 ∧ Below w.heap.size w (w'.alloc o) := k7_at h (q.2.2.2.2.2.2.2.alloc q.2.2.2.2.2.2.2.size o)
theorem k7_set {W w w' : World} {x y : Value} {g : Nat} {a0 a1 a2 a3 a4 a5 a6 : Addr} {v0 v1 v2 v3 v4 v5 v6 : Value} {l : List (Addr × Value)} (h : Kept W w ((a0, v0) :: (a1, v1) :: (a2, v2) :: (a3, v3) :: (a4, v4) :: (a5, v5) :: (a6, v6) :: l)) (q : w'.cell? a0 = some v0 ∧ w'.cell? a1 = some v1 ∧ w'.cell? a2 = some v2 ∧ w'.cell? a3 = some v3 ∧ w'.cell? a4 = some v4 ∧ w'.cell? a5 = some v5 ∧ w'.cell? a6 = some v6 ∧ Below w.heap.size w w') (hg : w.heap.size ≤ g) :
    ((w'.setCell ⟨g, 0, none⟩ x).setCell ⟨g, 1, none⟩ y).cell? a0 = some v0 ∧ ((w'.setCell ⟨g, 0, none⟩ x).setCell ⟨g, 1, none⟩ y).cell? a1 = some v1 ∧ ((w'.setCell ⟨g, 0, none⟩ x).setCell ⟨g, 1, none⟩ y).cell? a2 = some v2 ∧ ((w'.setCell ⟨g, 0, none⟩ x).setCell ⟨g, 1, none⟩ y).cell? a3 = some v3 ∧ ((w'.setCell ⟨g, 0, none⟩ x).setCell ⟨g, 1, none⟩ y).cell? a4 = some v4 ∧ ((w'.setCell ⟨g, 0, none⟩ x).setCell ⟨g, 1, none⟩ y).cell? a5 = some v5 ∧ ((w'.setCell ⟨g, 0, none⟩ x).setCell ⟨g, 1, none⟩ y).cell? a6 = some v6 ∧ Below w.heap.size w ((w'.setCell ⟨g, 0, none⟩ x).setCell ⟨g, 1, none⟩ y) := k7_at h ((q.2.2.2.2.2.2.2.setCell hg x).setCell hg y)
theorem k7_b {w w' : World} {p0 p1 p2 p3 p4 p5 p6 : Prop} (q : p0 ∧ p1 ∧ p2 ∧ p3 ∧ p4 ∧ p5 ∧ p6 ∧ Below w.heap.size w w') : Below w.heap.size w w' := q.2.2.2.2.2.2.2
end Go.Proofs.Ytcfcohnkkgickaa

namespace Go.Proofs.Ytcfcohnkkgickaa
open Go.RowKit Num

/-- A block. -/
structure Blk where
  id : Int
  rows : List Rw

def blkTy : Ty Blk where
  size := 2
  rep := fun w cs b fp => ∃ v, cs = [.int .i64 b.id, v] ∧ SliceRep rowTy w v b.rows fp
  len := fun h => by obtain ⟨v, rfl, _⟩ := h; rfl
  lt := fun h => by obtain ⟨v, _, h⟩ := h; exact h.lt
  keep := fun h hk => by obtain ⟨v, e, h⟩ := h; exact ⟨v, e, h.keep hk⟩

/-- Block number k of the blocks in block g, to be read. -/
def BlkVal (w : World) (g k : Nat) (b : Blk) : Prop :=
  ∃ rao rcap, w.cell? ⟨g, k * 2, none⟩ = some (.int .i64 b.id) ∧ w.cell? ⟨g, k * 2 + 1, none⟩ = some (.slice rao b.rows.length rcap) ∧ RowsVal w rao b.rows.length (Rn b.rows)
theorem BlkVal.below {w w' : World} {B g k : Nat} {b : Blk} (h : BlkVal w g k b) (hb : Below B w w') (hg : g < B) (hB : w.heap.size ≤ B) : BlkVal w' g k b := by
  obtain ⟨rao, rcap, h0, h1, h2⟩ := h
  exact ⟨rao, rcap, by rw [hb.cell (p := ⟨g, k * 2, none⟩) hg]; exact h0, by rw [hb.cell (p := ⟨g, k * 2 + 1, none⟩) hg]; exact h1, h2.below (hb.mono hB)⟩
/-- A slice of blocks, to be read. -/
def BlksVal (w : World) (ao : Option Addr) (l : List Blk) : Prop := l.length = 0 ∨ ∃ g, ao = some ⟨g, 0, none⟩ ∧ g < w.heap.size ∧ ∀ k (hk : k < l.length), BlkVal w g k l[k]
theorem BlksVal.below {w w' : World} {ao : Option Addr} {l : List Blk} (h : BlksVal w ao l) (hb : Below w.heap.size w w') : BlksVal w' ao l := by
  rcases h with h | ⟨g, e, hg, h⟩
  · exact .inl h
  · exact .inr ⟨g, e, Nat.lt_of_lt_of_le hg hb.size, fun k hk => (h k hk).below hb hg (Nat.le_refl _)⟩

theorem blks_open {w : World} {v : Value} {l : List Blk} {fp : List Nat} (h : SliceRep blkTy w v l fp) : ∃ ao cap, v = .slice ao l.length cap ∧ l.length ≤ cap ∧ BlksVal w ao l := by
  rcases h with ⟨rfl, _, rfl | ⟨ad, cap, rfl⟩⟩ | ⟨g, cap, f, rfl, hc, ho, he, _⟩
  · exact ⟨_, _, rfl, Nat.zero_le _, .inl rfl⟩
  · exact ⟨_, _, rfl, Nat.zero_le _, .inl rfl⟩
  · refine ⟨_, cap, rfl, hc, .inr ⟨g, rfl, ho.1, fun k hk => ?_⟩⟩
    obtain ⟨cs, f', hcs, ⟨v, rfl, hr⟩, _⟩ := he.get k hk
    obtain ⟨rao, rcap, rfl, _, hV⟩ := rows_open hr
    rw [Nat.zero_add] at hcs
    exact ⟨rao, rcap, hcs 0 (by simp), hcs 1 (by simp), hV⟩

/-- The blocks' row IDs are numbers of the machine. -/
def WfB (n : Nat) (B : Nat → Blk) : Prop := ∀ k, k < n → ∀ j, j < (B k).rows.length → (Lit.int .i64 (Rn (B k).rows j).i).wf = true

/-- One element more. -/
theorem Elems.snoc {α : Type} {E : Ty α} {w : World} {g : Nat} {x : α} {cs : List Value} {f' : List Nat} : ∀ {l : List α} {k : Nat} {f : List Nat}, Elems E w g k l f → CellsAt w g ((k + l.length) * E.size) cs → E.rep w cs x f' → Elems E w g k (l ++ [x]) (f ++ f')
  | [], k, f, h, hc, hx => by
    have e : f = [] := h
    subst e
    exact ⟨cs, f', [], by simp, by simpa using hc, hx, rfl⟩
  | y :: l, k, f, ⟨cs0, f1, f2, e, h0, h1, h2⟩, hc, hx => by
    subst e
    refine ⟨cs0, f1, f2 ++ f', by rw [List.append_assoc], h0, h1, Elems.snoc h2 ?_ hx⟩
    rw [show k + 1 + l.length = k + (y :: l).length by simp only [List.length_cons]; omega]
    exact hc
/-- A store behind the elements. -/
theorem Elems.set {α : Type} {E : Ty α} {w : World} {g : Nat} {u : Value} {o : Nat} : ∀ {l : List α} {k : Nat} {f : List Nat}, Elems E w g k l f → (k + l.length) * E.size ≤ o → g ∉ f → Elems E (w.setCell ⟨g, o, none⟩ u) g k l f
  | [], _, _, h, _, _ => h
  | x :: l, k, f, ⟨cs, f1, f2, e, hc, h1, h2⟩, ho, hg => by
    subst e
    have hlen := E.len h1
    refine ⟨cs, f1, f2, rfl, fun j hj => ?_, E.keep h1 (fun b hb => Below.heap_setCell _ _ _ _ (fun e => hg (by have e' : b = g := e; rw [← e']; simp [hb]))), Elems.set h2 (by rw [show k + 1 + l.length = k + (x :: l).length by simp only [List.length_cons]; omega]; exact ho) (fun h => hg (by simp [h]))⟩
    rw [World.cell?_setCell_other (w := w) (a := ⟨g, o, none⟩) (b := ⟨g, k * E.size + j, none⟩) (v := u) (fun e => ?_)]
    · exact hc j hj
    · simp only [Addr.mk.injEq, true_and, and_true] at e
      have h3 : (k + 1) * E.size ≤ (k + (x :: l).length) * E.size := Nat.mul_le_mul_right _ (by simp only [List.length_cons]; omega)
      rw [Nat.add_mul, Nat.one_mul] at h3
      omega
theorem Elems.step {α : Type} {E : Ty α} {w w' : World} {g k : Nat} {l : List α} {f : List Nat} (h : Elems E w g k l f) (hg : g < w.heap.size) (hb : Below w.heap.size w w') : Elems E w' g k l f :=
  Elems.keep (hb.block g hg) h fun b hb' => hb.block b (h.lt b hb')

/-- Block g is the call's own, has room for n elements, and its first ones are l, which reach f: each new, no two the same. -/
def ElemsTo {α : Type} (E : Ty α) (W w : World) (g n : Nat) (l : List α) (f : List Nat) : Prop :=
  Below W.heap.size W w ∧ W.heap.size ≤ g ∧ OwnBlk w g (n * E.size) ∧ Elems E w g 0 l f ∧ (g :: f).Nodup ∧ ∀ k ∈ f, W.heap.size ≤ k
theorem ElemsTo.step {α : Type} {E : Ty α} {W w w' : World} {g n : Nat} {l : List α} {f : List Nat} (h : ElemsTo E W w g n l f) (hb : Below w.heap.size w w') : ElemsTo E W w' g n l f :=
  ⟨h.1.trans (hb.mono h.1.size), h.2.1, h.2.2.1.keep (hb.block g h.2.2.1.1), h.2.2.2.1.step h.2.2.1.1 hb, h.2.2.2.2⟩
theorem ElemsTo.set {α : Type} {E : Ty α} {W w : World} {g n : Nat} {l : List α} {f : List Nat} (h : ElemsTo E W w g n l f) (o : Nat) (u : Value) (ho : l.length * E.size ≤ o) : ElemsTo E W (w.setCell ⟨g, o, none⟩ u) g n l f :=
  ⟨h.1.setCell h.2.1 u, h.2.1, h.2.2.1.set _ u, h.2.2.2.1.set (by rw [Nat.zero_add]; exact ho) (List.nodup_cons.1 h.2.2.2.2.1).1, h.2.2.2.2⟩
/-- The next element, whose cells stand there and whose things are new. -/
theorem ElemsTo.snoc {α : Type} {E : Ty α} {W w : World} {g n : Nat} {l : List α} {f f' : List Nat} {x : α} {cs : List Value} (h : ElemsTo E W w g n l f) (hc : CellsAt w g (l.length * E.size) cs) (hx : E.rep w cs x f') (hn : f'.Nodup) (hd : ∀ k ∈ f', k ∉ g :: f) (hW : ∀ k ∈ f', W.heap.size ≤ k) : ElemsTo E W w g n (l ++ [x]) (f ++ f') := by
  refine ⟨h.1, h.2.1, h.2.2.1, h.2.2.2.1.snoc (by rw [Nat.zero_add]; exact hc) hx, ?_, fun k hk => ?_⟩
  · have h5 := h.2.2.2.2.1
    rw [List.nodup_cons] at h5 ⊢
    refine ⟨fun e => ?_, List.nodup_append.2 ⟨h5.2, hn, fun a ha b hb e => ?_⟩⟩
    · rcases List.mem_append.1 e with e | e
      · exact h5.1 e
      · exact hd g e (by simp)
    · subst e; exact hd a hb (by simp [ha])
  · rcases List.mem_append.1 hk with hk | hk
    · exact h.2.2.2.2.2 k hk
    · exact hW k hk
theorem ElemsTo.rep {α : Type} {E : Ty α} {W w : World} {g n cap : Nat} {l : List α} {f : List Nat} (h : ElemsTo E W w g n l f) (hl : l.length = n) (hc : n ≤ cap) : SliceRep E w (.slice (some ⟨g, 0, none⟩) n cap) l (g :: f) := by
  subst hl
  exact .inr ⟨g, cap, f, rfl, hc, h.2.2.1, h.2.2.2.1, rfl⟩
end Go.Proofs.Ytcfcohnkkgickaa
