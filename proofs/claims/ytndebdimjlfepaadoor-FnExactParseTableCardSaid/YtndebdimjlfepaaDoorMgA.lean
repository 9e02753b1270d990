/-
  Texts of one base, merged: Mk, BytesOwn, ItoaKit, Plain, FiSpec, L1In, Keep, RvSpec, RwLaw, PiSpec, RfSpec, StrOwn, CutSpec, PrPlain, Held5.
-/
import Derived.Test.YtndebdimjlfepaaDoorRows
import Derived.WalkKit
import Derived.ProofKit
import Derived.WalkSpells
import Derived.WalkLawsBesides
import Derived.Laws.IdiomStrings
import Derived.Laws.BytesString
import Derived.Test.YtndebdimjlfepaaDoorShelf
import Derived.Lib.LaidTab
import Derived.Stop.LaidErr
import Derived.Lib.AppendIntMem
import Derived.Sort.Grow
import Derived.Lib.Small
import Derived.Lib.ItoaMem
import Derived.Lib.ItoaNum
import Derived.Lib.ItoaLen
import Derived.Lib.IndexMore
import Derived.IntWalk
import Derived.Below
import Derived.Deep.QuietTactic
import Derived.Deep.RegionHeld3
import Derived.Deep.DeepCutAuto
import Derived.Lib.Hide
import Derived.Lib.Strings
import Derived.Laws.OwnMore
namespace Go.Proofs.YtndebdimjlfepaaDoor.MkF
open Go.ChangeShapes Go.WideShapes Go.ChangeAt Go.RowKit

def chars (l : List Nat) : List Char := l.map Char.ofNat
theorem words_cons (rest : List Char) : ∀ w : List Char, (∀ c ∈ w, c ≠ Char.ofNat 32) → wordsSigns (w ++ Char.ofNat 32 :: rest) = w :: wordsSigns rest
  | [], _ => rfl
  | c :: w, h => by
    have ih := words_cons rest w (fun x hx => h x (by simp [hx]))
    have hc : c ≠ Char.ofNat 32 := h c (by simp)
    rw [List.cons_append, wordsSigns, ih]
    exact hc
def wordA : List Nat := [104, 97, 114, 110, 101, 115, 115]
def wordB : List Nat := [99, 50, 57, 52, 50, 53, 53, 100, 57, 48, 56, 102, 57, 53, 102, 55, 100, 55, 99, 98, 48, 99, 52, 102, 55, 51, 51, 97, 53, 48, 99, 57, 55, 55, 51, 54, 49, 49, 56, 52, 53, 50, 53, 56, 56, 97, 100, 101, 50, 55, 101, 101, 57, 54, 101, 51, 98, 49, 97, 56, 48, 102, 98, 57]
def wordC : List Nat := [99, 117, 116]
set_option maxRecDepth 100000 in
set_option maxHeartbeats 4000000 in
def wordR : List Nat := [97, 116, 32, 108, 111, 111, 112, 46, 101, 120, 97, 109, 112, 108, 101, 47, 103, 48, 49, 57, 50, 55, 47, 108, 97, 119, 115, 46, 70, 110, 69, 120, 97, 99, 116, 70, 111, 114, 109, 97, 116, 82, 111, 119, 32, 108, 111, 111, 112, 46, 101, 120, 97, 109, 112, 108, 101, 47, 103, 48, 49, 57, 50, 55, 47, 108, 97, 119, 115, 46, 70, 110, 69, 120, 97, 99, 116, 80, 97, 114, 115, 101, 82, 111, 119, 32, 108, 111, 111, 112, 46, 101, 120, 97, 109, 112, 108, 101, 47, 103, 48, 49, 57, 50, 55, 47, 108, 97, 119, 115, 46, 70, 110, 69, 120, 97, 99, 116, 70, 111, 114, 109, 97, 116, 66, 108, 111, 99, 107, 32, 108, 111, 111, 112, 46, 101, 120, 97, 109, 112, 108, 101, 47, 103, 48, 49, 57, 50, 55, 47, 108, 97, 119, 115, 46, 70, 110, 69, 120, 97, 99, 116, 80, 97, 114, 115, 101, 66, 108, 111, 99, 107, 32, 108, 111, 111, 112, 46, 101, 120, 97, 109, 112, 108, 101, 47, 103, 48, 49, 57, 50, 55, 47, 108, 97, 119, 115, 46, 70, 110, 69, 120, 97, 99, 116, 70, 111, 114, 109, 97, 116, 84, 97, 98, 108, 101, 32, 108, 111, 111, 112, 46, 101, 120, 97, 109, 112, 108, 101, 47, 103, 48, 49, 57, 50, 55, 47, 108, 97, 119, 115, 46, 70, 110, 69, 120, 97, 99, 116, 80, 97, 114, 115, 101, 84, 97, 98, 108, 101, 32, 108, 111, 111, 112, 46, 101, 120, 97, 109, 112, 108, 101, 47, 103, 48, 49, 57, 50, 55, 47, 108, 97, 119, 115, 46, 70, 110, 69, 120, 97, 99, 116, 80, 97, 114, 115, 101, 67, 104, 97, 110, 103, 101]
theorem init_ofList : Tryd.prog.initOrder = String.ofList (chars wordA ++ Char.ofNat 32 :: (chars wordB ++ Char.ofNat 32 :: (chars wordC ++ Char.ofNat 32 :: chars wordR))) := by kernel_rfl
theorem init_words : ∃ R, wordsSigns Tryd.prog.initOrder.toList = chars wordA :: chars wordB :: chars wordC :: R := by
  refine ⟨wordsSigns (chars wordR), ?_⟩
  rw [init_ofList, String.toList_ofList, words_cons _ _ (of_decide_eq_true (by kernel_rfl)), words_cons _ _ (of_decide_eq_true (by kernel_rfl)), words_cons _ _ (of_decide_eq_true (by kernel_rfl))]
theorem bm (R : List (List Char)) : behindMainWord (chars wordA :: chars wordB :: chars wordC :: R) = chars wordC :: R := by
  unfold behindMainWord
  kernel_rfl
theorem w_gc : (chars wordC == "gc".toList) = false := by kernel_rfl
theorem w_spec : (chars wordC == "spec".toList) = false := by kernel_rfl
theorem w_cut : (chars wordC == "cut".toList) = true := by kernel_rfl
theorem w_car : (chars wordC == "carried".toList) = false := by kernel_rfl
theorem w_some : (some (chars wordC) == some "cut".toList) = true := by kernel_rfl
theorem w_scar : (some (chars wordC) == some "carried".toList) = false := by kernel_rfl
theorem w_lifts (R : List (List Char)) : stripLifts liftWords (chars wordC :: R) = ([], chars wordC :: R) := by kernel_rfl
theorem gen_head {P : Program} {R : List (List Char)} (hR : wordsSigns P.initOrder.toList = chars wordA :: chars wordB :: chars wordC :: R) : P.headLifts = [] := by
  unfold Program.headLifts
  rw [hR, bm, w_lifts]
  simp only [List.head?_cons, w_some, if_true]
theorem gen_make {P : Program} {R : List (List Char)} (hR : wordsSigns P.initOrder.toList = chars wordA :: chars wordB :: chars wordC :: R) : P.make = some .cut := by
  unfold Program.make
  rw [hR, bm]
  simp only [w_gc, w_spec, w_cut, Bool.false_or, Bool.true_or, if_true, Bool.false_eq_true, if_false]
theorem gen_enter {P : Program} {R : List (List Char)} (hR : wordsSigns P.initOrder.toList = chars wordA :: chars wordB :: chars wordC :: R) (hl : P.laysLater = false) (hb : P.bearsReflect = false) (hd : P.doorFits [] = true) : P.mayEnter = true := by
  unfold Program.mayEnter
  rw [hR, bm]
  simp only [w_gc, w_spec, w_car, w_lifts, hl, hb, hd, w_some, List.head?_cons, Bool.false_or, Bool.false_and, Bool.true_and, Bool.not_false, Bool.or_true, Bool.and_true]
  rfl
theorem gen_lifts {P : Program} {R : List (List Char)} (hR : wordsSigns P.initOrder.toList = chars wordA :: chars wordB :: chars wordC :: R) : P.liftsFinal = false := by
  unfold Program.liftsFinal
  rw [hR, bm, gen_head hR]
  simp only [List.head?_cons, w_scar, Bool.false_and, Bool.false_or]
  rfl
theorem mk_make : Tryd.prog.make = some .cut := by
  obtain ⟨R, hR⟩ := init_words
  exact gen_make hR
theorem mk_lifts : Tryd.prog.liftsFinal = false := by
  obtain ⟨R, hR⟩ := init_words
  exact gen_lifts hR
theorem mk_enter : Tryd.prog.mayEnter = true := by
  obtain ⟨R, hR⟩ := init_words
  exact gen_enter hR (by kernel_rfl) (by kernel_rfl) (by kernel_rfl)
theorem and_b {a b : Bool} (h : a = true) (h' : b = true) : (a && b) = true := by rw [h, h']; rfl
theorem make_eq {P : Program} {c : OpenClaim} (h : P.make = some .cut) (hc : c.make = .cut) : (P.make == some c.make) = true := by rw [h, hc]; rfl
theorem lifts_eq {P : Program} {c : OpenClaim} (h : P.liftsFinal = false) (hc : c.lifted = false) : (c.lifted == P.liftsFinal) = true := by rw [h, hc]; rfl
theorem closed_of {P : Program} {f : FuncId} {fn : Func} {s : ChangeSpec} {c : OpenClaim}
    (h0 : c.wf (OpenSpec.ofChange s) = true)
    (h1 : laidOutB P = true)
    (h2 : mapsRowed P = true)
    (h3 : fn.params.all (P.readableRec ·) = true)
    (h4 : namedTie P c.named s.vars = true)
    (h5 : (c.stops == []) = true)
    (h6 : (P.stops == []) = true)
    (h7 : (c.knobs == []) = true)
    (h8 : (P.stopKnobs == []) = true)
    (h9 : (c.inPlace == P.inPlace f) = true)
    (h10 : (c.unfollowed == P.unfollowed f) = true)
    (h11 : (c.recurses == P.recurses f) = true)
    (h12 : (c.named == P.varsNamed f) = true)
    (h13 : (c.maps == (fn.params.toList ++ s.plain.varTypes P).any (P.mapsRec ·)) = true)
    (h14 : (c.ifaces == (fn.params.toList ++ s.plain.varTypes P).any (P.ifacesRec ·)) = true)
    (h15 : (c.mapsOut == P.mapsAmong fn.resultTypes.toList) = true)
    (h16 : (c.loops == (fn.params.toList ++ s.plain.varTypes P).any (P.loopsFrom ·)) = true)
    (h17 : (c.wideKeys == (fn.params.toList ++ s.plain.varTypes P ++ fn.resultTypes.toList).any (P.wideKeysFrom ·)) = true)
    (h18 : s.vars.all (P.varReadable ·) = true)
    (h19 : fn.resultTypes.all (fun t => P.readableRec t && decide (t < P.types.size)) = true)
    (h20 : (c.ifacesOut == fn.resultTypes.toList.any (P.ifacesRec ·)) = true)
    (h21 : (c.loopsOut == fn.resultTypes.toList.any (P.loopsFrom ·)) = true)
    (h22 : (c.plainKeys == P.plainKeys) = true)
    (h23 : c.shortTexts.isNone = true)
    (h24 : P.stopsHeard = true)
    (h25 : P.mayEnter = true)
    (h26 : (c.lifted == P.liftsFinal) = true)
    (h27 : (P.make == some c.make) = true)
    (h28 : (c.kinds == (if c.domain.isEmpty then [] else fn.params.toList.map fun t => match P.underlying t with | some (.int k) => some k | _ => none)) = true)
    (h29 : (c.pinned == c.pinnedBy) = true)
    (h30 : (c.veiled == (fn.params.toList ++ s.plain.varTypes P ++ fn.resultTypes.toList).any (P.veiledRec ·)) = true)
    (h31 : c.veiledFits P fn.params.toList (fn.params.toList ++ s.plain.varTypes P ++ fn.resultTypes.toList) = true) : joinedFacts P f fn s c = true := by
  unfold joinedFacts
  exact (and_b (and_b (and_b (and_b (and_b (and_b (and_b (and_b (and_b (and_b (and_b (and_b (and_b (and_b (and_b (and_b (and_b (and_b (and_b (and_b (and_b (and_b (and_b (and_b (and_b (and_b (and_b (and_b (and_b (and_b (and_b h0 h1) h2) h3) h4) h5) h6) h7) h8) h9) h10) h11) h12) h13) h14) h15) h16) h17) h18) h19) h20) h21) h22) h23) h24) h25) h26) h27) h28) h29) h30) h31)
end Go.Proofs.YtndebdimjlfepaaDoor.MkF

namespace Go.Proofs.YtndebdimjlfepaaDoor
open Go.RowKit

/-- The cells of the bytes l. -/
def bcells (l : List UInt8) : List Value := l.map fun b => Value.int .u8 (b.toNat : Int)

/-- The slice v owns the bytes l among the blocks from B on. -/
def Bts (w : World) (B : Nat) (v : Value) (l : List UInt8) : Prop := w.ownsRow B 5 1 v l.length (bcells l)

theorem Tryd.infoU8 : (Tryd.prog.info? 5).map (fun i => (i.zero, i.size, i.bytes)) = some (some (.int .u8 0), 1, 1) := by kernel_rfl

theorem Bts.nil (w : World) (B : Nat) : Bts w B (.slice none 0 0) [] := ⟨rfl, .inl ⟨rfl, rfl⟩⟩

theorem Bts.lit (w : World) (B : Nat) (hB : B ≤ w.heap.size) : Bts (w.alloc (.cells #[] 5)) B (.slice (some ⟨w.heap.size, 0, none⟩) 0 0) [] :=
  World.ownsRow_lit w #[] 0 hB (by decide) rfl

/-- 'string(v)' where v owns the bytes l. -/
theorem Bts.str {w : World} {B : Nat} {v : Value} {l : List UInt8} (h : Bts w B v l) :
    (convert 104 9 v).run Tryd.prog w = .ok (.string ⟨l.toArray⟩) w := by
  have h0 := h
  rcases h.2 with ⟨rfl, hn⟩ | ⟨g, cap, cur, rfl, hb, hg, hnc, hcm, hcs, htake⟩
  · obtain rfl : l = [] := List.eq_nil_of_length_eq_zero hn
    rw [run_convert_bytes_string w 104 9 5 none 0 0 Tryd.underlying104 Tryd.underlying5 Tryd.underlying9]
    simp [Conv.bytesToString]
    rfl
  · refine run_convert_bytes_back w 104 9 5 ⟨g, 0, none⟩ cap l Tryd.underlying104 Tryd.underlying5 Tryd.underlying9 fun j hj => ?_
    exact World.ownsRow.cells h0 (g := g) rfl j (.int .u8 (l[j].toNat : Int)) (by simp [bcells, hj])

theorem bcells_append (l m : List UInt8) : bcells (l ++ m) = bcells l ++ bcells m := by simp [bcells]
theorem bcells_len (l : List UInt8) : (bcells l).length = l.length := by simp [bcells]

/-- 'append(out, b1, ..)': the new bytes lie in a new block of their own. -/
theorem wpList_append_bytes {ops : Array Oper} {rest : List Oper} {o : Oper} {a : Act} {Q : Exit → Act → World → Prop} {W w : World} (hgd : o.guard = none) (s x : Operand)
    (ho : o.op = .call { callee := .builtin .append, args := #[s, x], argTypes := #[104, 104] })
    (B : Nat) (v : Value) (l news : List UInt8) (hs : a.eval s = v) (hown : Bts w B v l) (cs : Array Value) (hcs : cs.toList = bcells news) (m c : Nat) (hm : m = news.length)
    (hx : a.eval x = .slice (some ⟨w.heap.size, 0, none⟩) m c) (hlen : l.length + news.length ≤ 140737488355328) (hB : B ≤ w.heap.size) (hbel : Below B W w)
    (h : ∀ v' w', Bts w' B v' (l ++ news) → Below B W w' → wpList Tryd.prog ops Q rest (a.put o.dst v') w') : wpList Tryd.prog ops Q (o :: rest) a (w.alloc (.cells cs 5)) := by
  obtain ⟨i0, hi, hz0, hz1, hz2⟩ := info_parts Tryd.infoU8
  subst hm
  have hlt : ∀ k, v.ownBlock = some k → B ≤ k := fun k hk => (World.ownsRow.lt hown k hk).1
  refine wpList_append_own _ hgd s x 104 ho B 5 i0 (.int .u8 0) 1 1 Tryd.underlying104 hi hz0 hz1 hz2 rfl (by decide) v l.length (bcells l) hs (World.ownsRow.alloc hown _)
    ⟨w.heap.size, 0, none⟩ news.length c (bcells news) hx (by simp [bcells_len]) ?_ ?_ (by unfold maxLen; omega) (by omega) (by simp; omega) ?_
  · intro j u hj
    have hadd : (⟨w.heap.size, 0, none⟩ : Addr).add j = ⟨w.heap.size, j, none⟩ := by unfold Addr.add; split <;> simp_all
    rw [hadd, cell_of_row _ w.heap.size j cs 5 (0, 0) (heap_alloc_new w _), ← hj, ← hcs]
    simp
  · intro u hu
    simp only [bcells, List.mem_map] at hu
    obtain ⟨b, _, rfl⟩ := hu
    rfl
  · intro v' w' h1 h2 _
    refine h v' w' ?_ ((hbel.alloc hB _).grown h2 (by simp; omega) hlt)
    unfold Bts
    rw [List.length_append, bcells_append]
    exact h1
/-- 'string([]byte{b})': the one byte lies in a new block. -/
theorem Bts.str1 (w : World) (x : Int) (b : UInt8) (h : x = (b.toNat : Int)) :
    (convert 104 9 (.slice (some ⟨w.heap.size, 0, none⟩) 1 1)).run Tryd.prog (w.alloc (.cells #[Value.int .u8 x] 5)) = .ok (.string ⟨#[b]⟩) (w.alloc (.cells #[Value.int .u8 x] 5)) := by
  subst h
  exact Bts.str (B := w.heap.size) (l := [b]) (World.ownsRow_lit w #[Value.int .u8 (b.toNat : Int)] 1 (Nat.le_refl _) (by decide) rfl)

/-- An iterator over a string stays as it is behind an append to an owned row. -/
theorem iter_kept {w w' : World} {B : Nat} {v : Value} {l : List UInt8} {o : Obj} (hg : (w.alloc o).grownBy w' v.ownBlock) (hown : Bts w B v l) (I : Nat) (s : ByteArray) (p : Nat) (hI : w.heap[I]? = some (.stringIter s p)) :
    w'.heap[I]? = some (.stringIter s p) := by
  have hlt : I < w.heap.size := (Array.getElem?_eq_some_iff.1 hI).1
  rw [hg.block I (by simp; omega) ?_]
  · rw [heap_alloc_old w o hlt]; exact hI
  · rcases hown.2 with ⟨rfl, _⟩ | ⟨g, cap, cur, rfl, _, hgg, _⟩
    · simp [Value.ownBlock]
    · intro h
      simp only [Value.ownBlock, Option.some.injEq] at h
      subst h
      rw [hgg] at hI
      cases hI

/-- 'append(out, b1, ..)': the new bytes lie in a new block of their own; an iterator over a string stays as it is. -/
theorem wpList_append_bytes_it {ops : Array Oper} {rest : List Oper} {o : Oper} {a : Act} {Q : Exit → Act → World → Prop} {W w : World} (hgd : o.guard = none) (s x : Operand)
    (ho : o.op = .call { callee := .builtin .append, args := #[s, x], argTypes := #[104, 104] })
    (B : Nat) (v : Value) (l news : List UInt8) (hs : a.eval s = v) (hown : Bts w B v l) (cs : Array Value) (hcs : cs.toList = bcells news) (m c : Nat) (hm : m = news.length)
    (hx : a.eval x = .slice (some ⟨w.heap.size, 0, none⟩) m c) (hlen : l.length + news.length ≤ 140737488355328) (hB : B ≤ w.heap.size) (hbel : Below B W w)
    (h : ∀ v' w', Bts w' B v' (l ++ news) → Below B W w' → (∀ (I : Nat) (s : ByteArray) (p : Nat), w.heap[I]? = some (.stringIter s p) → w'.heap[I]? = some (.stringIter s p)) → wpList Tryd.prog ops Q rest (a.put o.dst v') w') : wpList Tryd.prog ops Q (o :: rest) a (w.alloc (.cells cs 5)) := by
  obtain ⟨i0, hi, hz0, hz1, hz2⟩ := info_parts Tryd.infoU8
  subst hm
  have hlt : ∀ k, v.ownBlock = some k → B ≤ k := fun k hk => (World.ownsRow.lt hown k hk).1
  refine wpList_append_own _ hgd s x 104 ho B 5 i0 (.int .u8 0) 1 1 Tryd.underlying104 hi hz0 hz1 hz2 rfl (by decide) v l.length (bcells l) hs (World.ownsRow.alloc hown _)
    ⟨w.heap.size, 0, none⟩ news.length c (bcells news) hx (by simp [bcells_len]) ?_ ?_ (by unfold maxLen; omega) (by omega) (by simp; omega) ?_
  · intro j u hj
    have hadd : (⟨w.heap.size, 0, none⟩ : Addr).add j = ⟨w.heap.size, j, none⟩ := by unfold Addr.add; split <;> simp_all
    rw [hadd, cell_of_row _ w.heap.size j cs 5 (0, 0) (heap_alloc_new w _), ← hj, ← hcs]
    simp
  · intro u hu
    simp only [bcells, List.mem_map] at hu
    obtain ⟨b, _, rfl⟩ := hu
    rfl
  · intro v' w' h1 h2 _
    refine h v' w' ?_ ((hbel.alloc hB _).grown h2 (by simp; omega) hlt) ?_
    rotate_left
    · exact iter_kept h2 hown
    unfold Bts
    rw [List.length_append, bcells_append]
    exact h1
/-- 'append(out, b1, ..)': the new bytes lie in a new block of their own; what has grown is told. -/
theorem wpList_append_bytes_g {ops : Array Oper} {rest : List Oper} {o : Oper} {a : Act} {Q : Exit → Act → World → Prop} {W w : World} (hgd : o.guard = none) (s x : Operand)
    (ho : o.op = .call { callee := .builtin .append, args := #[s, x], argTypes := #[104, 104] })
    (B : Nat) (v : Value) (l news : List UInt8) (hs : a.eval s = v) (hown : Bts w B v l) (cs : Array Value) (hcs : cs.toList = bcells news) (m c : Nat) (hm : m = news.length)
    (hx : a.eval x = .slice (some ⟨w.heap.size, 0, none⟩) m c) (hlen : l.length + news.length ≤ 140737488355328) (hB : B ≤ w.heap.size) (hbel : Below B W w)
    (h : ∀ v' w', Bts w' B v' (l ++ news) → Below B W w' → (w.alloc (.cells cs 5)).grownBy w' v.ownBlock → wpList Tryd.prog ops Q rest (a.put o.dst v') w') : wpList Tryd.prog ops Q (o :: rest) a (w.alloc (.cells cs 5)) := by
  obtain ⟨i0, hi, hz0, hz1, hz2⟩ := info_parts Tryd.infoU8
  subst hm
  have hlt : ∀ k, v.ownBlock = some k → B ≤ k := fun k hk => (World.ownsRow.lt hown k hk).1
  refine wpList_append_own _ hgd s x 104 ho B 5 i0 (.int .u8 0) 1 1 Tryd.underlying104 hi hz0 hz1 hz2 rfl (by decide) v l.length (bcells l) hs (World.ownsRow.alloc hown _)
    ⟨w.heap.size, 0, none⟩ news.length c (bcells news) hx (by simp [bcells_len]) ?_ ?_ (by unfold maxLen; omega) (by omega) (by simp; omega) ?_
  · intro j u hj
    have hadd : (⟨w.heap.size, 0, none⟩ : Addr).add j = ⟨w.heap.size, j, none⟩ := by unfold Addr.add; split <;> simp_all
    rw [hadd, cell_of_row _ w.heap.size j cs 5 (0, 0) (heap_alloc_new w _), ← hj, ← hcs]
    simp
  · intro u hu
    simp only [bcells, List.mem_map] at hu
    obtain ⟨b, _, rfl⟩ := hu
    rfl
  · intro v' w' h1 h2 _
    refine h v' w' ?_ ((hbel.alloc hB _).grown h2 (by simp; omega) hlt) ?_
    rotate_left
    · exact h2
    unfold Bts
    rw [List.length_append, bcells_append]
    exact h1
theorem Bts.kept {w w' : World} {B b : Nat} {v : Value} {l : List UInt8} (h : Bts w B v l) (hg : w.grownBy w' (some b)) (hb : b < B) : Bts w' B v l :=
  World.ownsRow.kept h hg (by
    cases hv : v.ownBlock with
    | none => exact .inl rfl
    | some k => exact .inr (fun e => by have := (World.ownsRow.lt h k hv).1; cases e; omega))
theorem Bts.own_ne {w : World} {B b : Nat} {v : Value} {l : List UInt8} (h : Bts w B v l) (hb : b < B) : v.ownBlock ≠ some b ∧ ∀ k, v.ownBlock = some k → B ≤ k :=
  ⟨fun e => by have := (World.ownsRow.lt h b e).1; omega, fun k hk => (World.ownsRow.lt h k hk).1⟩
theorem u8_int (x : Int) (h0 : 0 ≤ x) (h1 : x < 256) : x = ((UInt8.ofNat x.toNat).toNat : Int) := by
  obtain ⟨k, rfl⟩ := Int.eq_ofNat_of_zero_le h0
  simp; omega

/-- 'append(out, b1, ..)' as a step of a region that draws its order: the new bytes lie in block H. -/
theorem step_append_bytes {ops : Array Oper} {o : Oper} {a : Act} {K : Act → World → Prop} {Q : Exit → Act → World → Prop} {E : Prop} {W w : World} (hgd : o.guard = none) (s x : Operand)
    (ho : o.op = .call { callee := .builtin .append, args := #[s, x], argTypes := #[104, 104] })
    (B : Nat) (v : Value) (l news : List UInt8) (hs : a.eval s = v) (hown : Bts w B v l) (H : Nat) (cs : Array Value) (hcs : cs.toList = bcells news) (hblk : w.heap[H]? = some (.cells cs 5 (0, 0))) (m c : Nat) (hm : m = news.length)
    (hx : a.eval x = .slice (some ⟨H, 0, none⟩) m c) (hlen : l.length + news.length ≤ 140737488355328) (hB : B ≤ w.heap.size) (hbel : Below B W w)
    (h : ∀ v' w', Bts w' B v' (l ++ news) → Below B W w' → K (a.put o.dst v') w') :
    if Region.wanted o (yielded ops a.tmps) = true then Oper.wp Tryd.prog o a w K Q else E := by
  have hw : Region.wanted o (yielded ops a.tmps) = true := by simp [Region.wanted, hgd]
  rw [if_pos hw]
  obtain ⟨i0, hi, hz0, hz1, hz2⟩ := info_parts Tryd.infoU8
  subst hm
  have hlt : ∀ k, v.ownBlock = some k → B ≤ k := fun k hk => (World.ownsRow.lt hown k hk).1
  refine wp_append_own w s x 104 ho B 5 i0 (.int .u8 0) 1 1 Tryd.underlying104 hi hz0 hz1 hz2 rfl (by decide) v l.length (bcells l) hs hown
    ⟨H, 0, none⟩ news.length c (bcells news) hx (by simp [bcells_len]) ?_ ?_ (by unfold maxLen; omega) (by omega) hB ?_
  · intro j u hj
    have hadd : (⟨H, 0, none⟩ : Addr).add j = ⟨H, j, none⟩ := by unfold Addr.add; split <;> simp_all
    rw [hadd, cell_of_row _ H j cs 5 (0, 0) hblk, ← hj, ← hcs]
    simp
  · intro u hu
    simp only [bcells, List.mem_map] at hu
    obtain ⟨b, _, rfl⟩ := hu
    rfl
  · intro v' w' h1 h2 _
    refine h v' w' ?_ (hbel.grown h2 hB hlt)
    unfold Bts
    rw [List.length_append, bcells_append]
    exact h1
theorem Bts.alloc {w : World} {B : Nat} {v : Value} {l : List UInt8} (h : Bts w B v l) (o : Obj) : Bts (w.alloc o) B v l := World.ownsRow.alloc h o
theorem Bts.drew {w : World} {B : Nat} {v : Value} {l : List UInt8} (h : Bts w B v l) : Bts w.drew B v l := h

/-- A row of the call's own at a known head: its cells, that none is frozen, a store into it. -/
theorem Bts.cellAt {w : World} {B g m cap : Nat} {l : List UInt8} (h : Bts w B (.slice (some ⟨g, 0, none⟩) m cap) l) (hm : l.length = m) (j : Nat) (hj : j < l.length) : w.cell? ⟨g, j, none⟩ = some (.int .u8 (l[j].toNat : Int)) := by
  subst hm
  have := World.ownsRow.cellAt h j (by omega)
  rw [this]
  simp [bcells, hj]
theorem Bts.frozenAt {w : World} {B g m cap : Nat} {l : List UInt8} (h : Bts w B (.slice (some ⟨g, 0, none⟩) m cap) l) (hm : l.length = m) (j : Nat) : w.frozen? ⟨g, j, none⟩ = false := by
  subst hm
  exact World.ownsRow.frozenAt h j
theorem Bts.stored {w : World} {B g m cap : Nat} {l : List UInt8} (h : Bts w B (.slice (some ⟨g, 0, none⟩) m cap) l) (hm : l.length = m) (j : Nat) (x : Int) (b : UInt8) (hb : x = (b.toNat : Int)) :
    Bts (w.setCell ⟨g, j, none⟩ (.int .u8 x)) B (.slice (some ⟨g, 0, none⟩) m cap) (l.set j b) := by
  subst hm
  subst hb
  have := (World.ownsRow.stored h j (.int .u8 (b.toNat : Int))).1
  have e : (bcells l).set j (.int .u8 (b.toNat : Int)) = bcells (l.set j b) := by simp [bcells, List.map_set]
  rw [e] at this
  unfold Bts
  rw [List.length_set]
  exact this
theorem Bts.lt {w : World} {B g m cap : Nat} {l : List UInt8} (h : Bts w B (.slice (some ⟨g, 0, none⟩) m cap) l) : B ≤ g ∧ g < w.heap.size := World.ownsRow.lt h g rfl

/-- 'make([]byte, m)'. -/
theorem wpList_make_bytes {ops : Array Oper} {rest : List Oper} {o : Oper} {a : Act} {Q : Exit → Act → World → Prop} {W w : World} (hg : o.guard = none) (x c : Operand) (ho : o.op = Op.makeSlice 104 x c)
    (B : Nat) (kl kc : IntKind) (L C : Int) (m : Nat) (hl : a.eval x = .int kl L) (hc : a.eval c = .int kc C) (hL : L = (m : Int)) (hC : C = (m : Int)) (hm : m ≤ 281474976710656) (hB : B ≤ w.heap.size) (hbel : Below B W w)
    (h : ∀ w', Bts w' w.heap.size (.slice (some ⟨w.heap.size, 0, none⟩) m m) (List.replicate m 0) → Below B W w' → wpList Tryd.prog ops Q rest (a.put o.dst (.slice (some ⟨w.heap.size, 0, none⟩) m m)) w') :
    wpList Tryd.prog ops Q (o :: rest) a w := by
  obtain ⟨i0, hi, hz0, hz1, hz2⟩ := info_parts Tryd.infoU8
  refine wpList_make_full w hg x c 104 ho w.heap.size 5 i0 (.int .u8 0) 1 Tryd.underlying104 hi hz0 hz1 kl kc L C m hl hc hL hC (by rw [hz2]; omega) (by unfold maxLen; omega) (Nat.le_refl _) ?_
  intro w' h1 h2
  refine h w' ?_ (hbel.grown h2 hB (fun k hk => by cases hk))
  have e : (madeCells (Value.int .u8 0).cells (m * 1)).toList = bcells (List.replicate m 0) := by
    show (madeCells #[Value.int .u8 0] (m * 1)).toList = _
    rw [toList_madeCells_one, Nat.mul_one]
    simp [bcells]
  rw [e] at h1
  unfold Bts
  rw [List.length_replicate]
  exact h1

/-- An int64's bounds out of 'wf'. -/
theorem i64_wf {a : Int} (h : (Lit.int .i64 a).wf = true) : -9223372036854775808 ≤ a ∧ a ≤ 9223372036854775807 := by
  simp only [Lit.wf, Bool.and_eq_true, decide_eq_true_eq] at h
  have e1 : IntKind.i64.min = -9223372036854775808 := by decide
  have e2 : IntKind.i64.max = 9223372036854775807 := by decide
  omega

/-- 'make([]byte, 0, n)'. -/
theorem wpList_make0_bytes {ops : Array Oper} {rest : List Oper} {o : Oper} {a : Act} {Q : Exit → Act → World → Prop} {W w : World} (hg : o.guard = none) (x c : Operand) (ho : o.op = Op.makeSlice 104 x c)
    (B : Nat) (kl kc : IntKind) (C : Int) (n : Nat) (hl : a.eval x = .int kl 0) (hc : a.eval c = .int kc C) (hC : C = (n : Int)) (hn : n ≤ 281474976710656) (hB : B ≤ w.heap.size) (hbel : Below B W w)
    (h : ∀ w', Bts w' B (.slice (some ⟨w.heap.size, 0, none⟩) 0 n) [] → Below B W w' → wpList Tryd.prog ops Q rest (a.put o.dst (.slice (some ⟨w.heap.size, 0, none⟩) 0 n)) w') :
    wpList Tryd.prog ops Q (o :: rest) a w := by
  obtain ⟨i0, hi, hz0, hz1, hz2⟩ := info_parts Tryd.infoU8
  refine wpList_make_own w hg x c 104 ho B 5 i0 (.int .u8 0) 1 Tryd.underlying104 hi hz0 hz1 kl kc C n hl hc hC (by rw [hz2]; omega) (by unfold maxLen; omega) hB ?_
  intro w' h1 h2
  exact h w' h1 (hbel.grown h2 hB (fun k hk => by cases hk))

theorem u8_wf {a : Int} (h : (Lit.int .u8 a).wf = true) : 0 ≤ a ∧ a ≤ 255 := by
  simp only [Lit.wf, Bool.and_eq_true, decide_eq_true_eq] at h
  have e1 : IntKind.u8.min = 0 := by decide
  have e2 : IntKind.u8.max = 255 := by decide
  omega

/-- One byte, two bytes as the walk writes them. -/
theorem bcells_one (x : Int) (b : UInt8) (h : x = (b.toNat : Int)) : (#[Value.int .u8 x] : Array Value).toList = bcells [b] := by subst h; rfl
theorem bcells_two (x y : Int) (b c : UInt8) (h : x = (b.toNat : Int)) (k : y = (c.toNat : Int)) : (#[Value.int .u8 x, Value.int .u8 y] : Array Value).toList = bcells [b, c] := by subst h; subst k; rfl
end Go.Proofs.YtndebdimjlfepaaDoor

namespace Go.Proofs.YtndebdimjlfepaaDoor
open Go.RowKit

/-- The table as the program's text lays it. -/
def PowTab (w : World) : Prop := Lib.TabIs Tryd.prog w "internal/strconv.uint64pow10" .u64 Lib.pow10Tab

theorem powTab_datum : (Rows.laid_internal_strconv_uint64pow10 : DataW Unit) = Lib.tabData .u64 Lib.pow10Tab := by kernel_rfl

theorem powTab_of {W : World} {a b : String × DataW Unit} {rest : List (String × DataW Unit)} (h : laidMet Tryd.prog (a :: b :: ("internal/strconv.uint64pow10", Rows.laid_internal_strconv_uint64pow10) :: rest) W) : PowTab W := by
  have h2 := h.tail.tail
  rw [powTab_datum] at h2
  exact Lib.tabIs_of_head (g := 1) (t := 145) (e := 134) (n := 20) (by kernel_rfl) (by kernel_rfl) Tryd.underlying145 Tryd.underlying134 (by kernel_rfl) (by kernel_rfl) h2

theorem PowTab.below {B : Nat} {w w' : World} (h : PowTab w) (hb : Below B w w') (hB : w.heap.size ≤ B) : PowTab w' := Lib.tabBelow_of_tabIs h w' (hb.mono hB)

theorem grow_below (w : World) (k : Nat) (os : Array Obj) : Below w.heap.size w (Go.Sort.grow (w.drewN k) os) := by
  refine ⟨rfl, rfl, rfl, ?_, fun j hj => ?_⟩
  · show w.heap.size ≤ (w.heap ++ os).size
    simp
  · show (w.heap ++ os)[j]? = w.heap[j]?
    rw [Array.getElem?_append_left hj]

theorem impl_fi (n : Int) (w : World) (h0 : -9223372036854775808 ≤ n) (h1 : n ≤ 9223372036854775807) (ht : PowTab w) :
    Calls Tryd.prog 40 #[.int .i64 n] w fun e w' => e = .returned (.string ⟨(Lib.itoa n).toArray⟩) ∧ Below w.heap.size w w' := by
  have HT : Hid (PowTab w) := ht
  clear ht
  go_enter Tryd.func40, Tryd.ntmps40
  go_wp2_with (first | (go_at_call 72; refine (Tryd.strconv_Itoa n h0 h1 _ HT.out).mono ?_; rintro e w' ⟨rfl, k, os, rfl⟩))
  go_ret
  exact ⟨rfl, grow_below _ _ _⟩
end Go.Proofs.YtndebdimjlfepaaDoor


/-! ### FrPlain -/
namespace Go.Proofs.YtndebdimjlfepaaDoor.Num
open Go

theorem gcd_round (x y : Int) : Int.gcd y (x.tmod y) = Int.gcd x y := by
  unfold Int.gcd
  rw [Int.natAbs_tmod, Nat.gcd_comm, ← Nat.gcd_rec, Nat.gcd_comm]

theorem gcdN_round (x y : Nat) : Nat.gcd y (x % y) = Nat.gcd x y := by
  rw [Nat.gcd_comm, ← Nat.gcd_rec, Nat.gcd_comm]

theorem gcd_abs (n : Int) (d : Nat) : Nat.gcd n.natAbs d = Int.gcd n d := rfl

theorem gcd_pos {n d : Int} (h : d ≠ 0) : 1 ≤ Int.gcd n d := Int.gcd_pos_of_ne_zero_right n h

theorem gcd_le {n d : Int} (h : d ≠ 0) : Int.gcd n d ≤ d.natAbs := Nat.le_of_dvd (by omega) (Nat.gcd_dvd_right n.natAbs d.natAbs)

/-- The limits of a fraction; its limits and lowest terms. -/
def limB (n d : Int) : Bool := decide (-999999999 ≤ n ∧ n ≤ 999999999 ∧ 1 ≤ d ∧ d ≤ 10000)
def frB (n d : Int) : Bool := limB n d && decide (Int.gcd n d = 1)

theorem limB_of {n d : Int} (h : limB n d = true) : -999999999 ≤ n ∧ n ≤ 999999999 ∧ 1 ≤ d ∧ d ≤ 10000 := of_decide_eq_true h
theorem limB_yes {n d : Int} (h : -999999999 ≤ n ∧ n ≤ 999999999 ∧ 1 ≤ d ∧ d ≤ 10000) : limB n d = true := decide_eq_true h
theorem limB_no {n d : Int} (h : ¬ (-999999999 ≤ n ∧ n ≤ 999999999 ∧ 1 ≤ d ∧ d ≤ 10000)) : limB n d = false := decide_eq_false h
theorem frB_of {n d : Int} (h : frB n d = true) : (-999999999 ≤ n ∧ n ≤ 999999999 ∧ 1 ≤ d ∧ d ≤ 10000) ∧ Int.gcd n d = 1 := by
  unfold frB at h
  rw [Bool.and_eq_true] at h
  exact ⟨limB_of h.1, of_decide_eq_true h.2⟩
theorem frB_yes {n d : Int} (h : -999999999 ≤ n ∧ n ≤ 999999999 ∧ 1 ≤ d ∧ d ≤ 10000) (hg : Int.gcd n d = 1) : frB n d = true := by
  unfold frB; rw [limB_yes h, decide_eq_true hg]; rfl
theorem frB_no {n d : Int} (h : ¬ (-999999999 ≤ n ∧ n ≤ 999999999 ∧ 1 ≤ d ∧ d ≤ 10000)) : frB n d = false := by
  unfold frB; rw [limB_no h]; rfl
theorem frB_no2 {n d : Int} (hg : ¬ Int.gcd n d = 1) : frB n d = false := by
  unfold frB; rw [decide_eq_false hg]; simp

/-- The lowest terms of n / d, for d other than 0. -/
def rN (n d : Int) : Int := if d < 0 then -(n / (Int.gcd n d : Nat)) else n / (Int.gcd n d : Nat)
def rD (n d : Int) : Int := ((d.natAbs / Int.gcd n d : Nat) : Int)

theorem dvdN (n d : Int) : ((Int.gcd n d : Nat) : Int) ∣ n := Int.gcd_dvd_left n d
theorem dvdD (n d : Int) : ((Int.gcd n d : Nat) : Int) ∣ d := Int.gcd_dvd_right n d

theorem red_pos_N {n d : Int} (h : 0 < d) : n.tdiv (Int.gcd n d : Nat) = rN n d := by
  unfold rN; rw [if_neg (by omega)]; exact Int.tdiv_eq_ediv_of_dvd (dvdN n d)
theorem red_pos_D {n d : Int} (h : 0 < d) : d.tdiv (Int.gcd n d : Nat) = rD n d := by
  unfold rD
  rw [Int.tdiv_eq_ediv_of_dvd (dvdD n d)]
  obtain ⟨k, rfl⟩ := Int.eq_ofNat_of_zero_le (show 0 ≤ d by omega)
  simp
theorem red_neg_N {n d : Int} (h : d < 0) : n.tdiv (-((Int.gcd n d : Nat) : Int)) = rN n d := by
  unfold rN; rw [if_pos h, Int.tdiv_neg, Int.tdiv_eq_ediv_of_dvd (dvdN n d)]
theorem red_neg_D {n d : Int} (h : d < 0) : d.tdiv (-((Int.gcd n d : Nat) : Int)) = rD n d := by
  unfold rD
  rw [Int.tdiv_neg, Int.tdiv_eq_ediv_of_dvd (dvdD n d)]
  obtain ⟨k, hk⟩ : ∃ k : Nat, d = -(k : Int) := ⟨d.natAbs, by omega⟩
  have hd := dvdD n d
  have e : ((d.natAbs : Nat) : Int) = -d := by omega
  rw [Int.natCast_ediv, e, Int.neg_ediv_of_dvd hd]

theorem rD_pos {n d : Int} (h : d ≠ 0) : 1 ≤ rD n d := by
  unfold rD
  have := gcd_le (n := n) h
  have g := gcd_pos (n := n) h
  have : 1 ≤ d.natAbs / Int.gcd n d := (Nat.le_div_iff_mul_le (by omega)).2 (by omega)
  omega
theorem rD_le {n d : Int} : rD n d ≤ d.natAbs := by
  unfold rD
  have := Nat.div_le_self d.natAbs (Int.gcd n d)
  omega
theorem rN_abs {n d : Int} : (rN n d).natAbs = n.natAbs / Int.gcd n d := by
  have h := dvdN n d
  have e : (n / ((Int.gcd n d : Nat) : Int)).natAbs = n.natAbs / Int.gcd n d := by
    rw [Int.natAbs_ediv_of_dvd h]; simp
  unfold rN
  split
  · rw [Int.natAbs_neg, e]
  · exact e
theorem rN_bd {n d : Int} : (rN n d).natAbs ≤ n.natAbs := by
  rw [rN_abs]; exact Nat.div_le_self _ _

theorem red_gcd {n d : Int} (h : d ≠ 0) : Int.gcd (rN n d) (rD n d) = 1 := by
  unfold Int.gcd
  rw [rN_abs]
  unfold rD
  rw [Int.natAbs_natCast]
  exact Nat.gcd_div_gcd_div_gcd_of_pos_right (by omega)

theorem red_frB {n d : Int} (h : d ≠ 0) : frB (rN n d) (rD n d) = limB (rN n d) (rD n d) := by
  unfold frB; rw [decide_eq_true (red_gcd h), Bool.and_true]

theorem red_self {n d : Int} (h : 0 < d) (hg : Int.gcd n d = 1) : rN n d = n ∧ rD n d = d := by
  unfold rN rD
  rw [if_neg (by omega), hg]
  constructor
  · simp
  · simp; omega
theorem red_other {n d : Int} (h : 0 < d) (hg : ¬ Int.gcd n d = 1) : rD n d ≠ d := by
  unfold rD
  have g := gcd_pos (n := n) (d := d) (by omega)
  have := Nat.div_lt_self (n := d.natAbs) (k := Int.gcd n d) (by omega) (by omega)
  omega

theorem rN_neg {n d : Int} (h : d ≠ 0) : rN (-n) (-d) = rN n d := by
  unfold rN
  have e : Int.gcd (-n) (-d) = Int.gcd n d := by simp [Int.gcd]
  rw [e]
  rcases Int.lt_or_gt_of_ne h with h | h
  · rw [if_neg (by omega), if_pos h, Int.neg_ediv_of_dvd (dvdN n d)]
  · rw [if_pos (by omega), if_neg (by omega), Int.neg_ediv_of_dvd (dvdN n d), Int.neg_neg]
theorem rD_neg {n d : Int} : rD (-n) (-d) = rD n d := by
  unfold rD
  have e : Int.gcd (-n) (-d) = Int.gcd n d := by simp [Int.gcd]
  rw [e, Int.natAbs_neg]

/-- Whether both terms may be taken. -/
def termB (n d : Int) : Bool := decide (d ≠ 0 ∧ -1000000000000 ≤ n ∧ n ≤ 1000000000000 ∧ -1000000000000 ≤ d ∧ d ≤ 1000000000000)
end Go.Proofs.YtndebdimjlfepaaDoor.Num

/-! ### FcPlain -/
namespace Go.Proofs.YtndebdimjlfepaaDoor.Num
open Go

/-- The numerator of Whole. -/
def whN (n : Int) : Int := if -999999999 ≤ n ∧ n ≤ 999999999 then n else 0
theorem whN_yes {n : Int} (h1 : -999999999 ≤ n) (h2 : n ≤ 999999999) : whN n = n := by unfold whN; rw [if_pos ⟨h1, h2⟩]
theorem whN_no {n : Int} (h : n < -999999999 ∨ 999999999 < n) : whN n = 0 := by unfold whN; rw [if_neg (by omega)]

/-- The order of n / d and m / e; 0 where one is none. -/
def cmpA (n d m e : Int) : Int := if frB n d = true ∧ frB m e = true then Lib.compareInt (n * e) (m * d) else 0
theorem cmpA_no1 {n d m e : Int} (h : frB n d = false) : cmpA n d m e = 0 := by unfold cmpA; rw [if_neg (by rw [h]; simp)]
theorem cmpA_no2 {n d m e : Int} (h : frB m e = false) : cmpA n d m e = 0 := by unfold cmpA; rw [if_neg (by rw [h]; simp)]
theorem cmpA_yes {n d m e : Int} (h1 : frB n d = true) (h2 : frB m e = true) : cmpA n d m e = Lib.compareInt (n * e) (m * d) := by unfold cmpA; rw [if_pos ⟨h1, h2⟩]

theorem ci_lt {x y : Int} (h : x < y) : Lib.compareInt x y = -1 := by unfold Lib.compareInt; rw [if_pos h]
theorem ci_gt {x y : Int} (h : y < x) : Lib.compareInt x y = 1 := by unfold Lib.compareInt; rw [if_neg (by omega), if_pos h]
theorem ci_eq {x y : Int} (h : x = y) : Lib.compareInt x y = 0 := by unfold Lib.compareInt; rw [if_neg (by omega), if_neg (by omega)]

theorem mul_bd {n e : Int} (h1 : -999999999 ≤ n) (h2 : n ≤ 999999999) (h3 : 1 ≤ e) (h4 : e ≤ 10000) : -9999999990000 ≤ n * e ∧ n * e ≤ 9999999990000 := by
  have h := Nat.mul_le_mul (show n.natAbs ≤ 999999999 by omega) (show e.natAbs ≤ 10000 by omega)
  rw [← Int.natAbs_mul] at h
  omega
theorem mul_bd2 {d e : Int} (h1 : 1 ≤ d) (h2 : d ≤ 10000) (h3 : 1 ≤ e) (h4 : e ≤ 10000) : 1 ≤ d * e ∧ d * e ≤ 100000000 := by
  have h := Nat.mul_le_mul (show d.natAbs ≤ 10000 by omega) (show e.natAbs ≤ 10000 by omega)
  rw [← Int.natAbs_mul] at h
  have := Int.mul_pos (show 0 < d by omega) (show 0 < e by omega)
  omega

/-- Whether n / d less m / e is a fraction. -/
def subB (n d m e : Int) : Bool := frB n d && (frB m e && limB (rN (n * e - m * d) (d * e)) (rD (n * e - m * d) (d * e)))
end Go.Proofs.YtndebdimjlfepaaDoor.Num

/-! ### IvPlain -/
namespace Go.Proofs.YtndebdimjlfepaaDoor.Num
open Go

/-- Whether a / b to c / d is an interval. -/
def ivB (a b c d : Int) : Bool := frB a b && (frB c d && decide (cmpA a b c d ≤ 0))
theorem ivB_of {a b c d : Int} (h : ivB a b c d = true) : frB a b = true ∧ frB c d = true ∧ cmpA a b c d ≤ 0 := by
  unfold ivB at h
  rw [Bool.and_eq_true, Bool.and_eq_true] at h
  exact ⟨h.1, h.2.1, of_decide_eq_true h.2.2⟩
theorem ivB_yes {a b c d : Int} (h1 : frB a b = true) (h2 : frB c d = true) (h3 : cmpA a b c d ≤ 0) : ivB a b c d = true := by unfold ivB; rw [h1, h2, decide_eq_true h3]; rfl
theorem ivB_no1 {a b c d : Int} (h1 : frB a b = false) : ivB a b c d = false := by unfold ivB; rw [h1]; rfl
theorem ivB_no2 {a b c d : Int} (h2 : frB c d = false) : ivB a b c d = false := by unfold ivB; rw [h2]; simp
theorem ivB_no3 {a b c d : Int} (h3 : ¬ cmpA a b c d ≤ 0) : ivB a b c d = false := by unfold ivB; rw [decide_eq_false h3]; simp

/-- The value of a valid fraction is told by its order: cmpA is the order of the products. -/
theorem cmpA_le {a b c d : Int} (h1 : frB a b = true) (h2 : frB c d = true) : cmpA a b c d ≤ 0 ↔ a * d ≤ c * b := by
  rw [cmpA_yes h1 h2]
  rcases Int.lt_trichotomy (a * d) (c * b) with h | h | h
  · rw [ci_lt h]; omega
  · rw [ci_eq h]; omega
  · rw [ci_gt h]; omega
theorem cmpA_flip (a b c d : Int) : cmpA c d a b = -cmpA a b c d := by
  unfold cmpA
  by_cases h : frB a b = true ∧ frB c d = true
  · rw [if_pos h, if_pos ⟨h.2, h.1⟩]
    rcases Int.lt_trichotomy (a * d) (c * b) with h | h | h
    · rw [ci_lt h, ci_gt h]; rfl
    · rw [ci_eq h, ci_eq h.symm]; rfl
    · rw [ci_gt h, ci_lt h]
  · rw [if_neg h, if_neg (fun k => h ⟨k.2, k.1⟩)]; rfl
theorem cmpA_bd (a b c d : Int) : -1 ≤ cmpA a b c d ∧ cmpA a b c d ≤ 1 := by
  unfold cmpA
  split
  · unfold Lib.compareInt; split
    · omega
    · split <;> omega
  · omega

/-- Two valid fractions of equal order are the same. -/
theorem frac_ext {a b c d : Int} (h1 : frB a b = true) (h2 : frB c d = true) (h : a * d = c * b) : a = c ∧ b = d := by
  obtain ⟨⟨_, _, b1, _⟩, g1⟩ := frB_of h1
  obtain ⟨⟨_, _, d1, _⟩, g2⟩ := frB_of h2
  have hb : b.natAbs ∣ d.natAbs := by
    have h0 : b.natAbs ∣ a.natAbs * d.natAbs := by rw [← Int.natAbs_mul, h, Int.natAbs_mul]; exact Nat.dvd_mul_left _ _
    exact Nat.Coprime.dvd_of_dvd_mul_left (show Nat.Coprime b.natAbs a.natAbs by unfold Nat.Coprime; rw [Nat.gcd_comm]; exact g1) h0
  have hd : d.natAbs ∣ b.natAbs := by
    have h0 : d.natAbs ∣ c.natAbs * b.natAbs := by rw [← Int.natAbs_mul, ← h, Int.natAbs_mul]; exact Nat.dvd_mul_left _ _
    exact Nat.Coprime.dvd_of_dvd_mul_left (show Nat.Coprime d.natAbs c.natAbs by unfold Nat.Coprime; rw [Nat.gcd_comm]; exact g2) h0
  have e : b = d := by
    have := Nat.dvd_antisymm hb hd
    omega
  refine ⟨?_, e⟩
  rw [e] at h
  exact Int.eq_of_mul_eq_mul_right (by omega) h

def exB (a b c d : Int) : Bool := ivB a b c d && (decide (a = c) && decide (b = d))
def coB (a b c d n m : Int) : Bool := ivB a b c d && (frB n m && (decide (cmpA a b n m ≤ 0) && decide (cmpA n m c d ≤ 0)))
def liB (a b c d e f g h : Int) : Bool := ivB a b c d && (ivB e f g h && (decide (cmpA e f a b ≤ 0) && decide (cmpA c d g h ≤ 0)))
def civ (a b c d e f g h : Int) : Int := if ivB a b c d = true ∧ ivB e f g h = true then (if cmpA c d e f < 0 then -1 else if cmpA g h a b < 0 then 1 else 0) else 0
end Go.Proofs.YtndebdimjlfepaaDoor.Num

/-! ### IvMore -/
namespace Go.Proofs.YtndebdimjlfepaaDoor.Num
open Go

theorem cmpA_trans {a b c d e f : Int} (h1 : frB a b = true) (h2 : frB c d = true) (h3 : frB e f = true) (p : cmpA a b c d ≤ 0) (q : cmpA c d e f ≤ 0) : cmpA a b e f ≤ 0 := by
  rw [cmpA_le h1 h2] at p
  rw [cmpA_le h2 h3] at q
  rw [cmpA_le h1 h3]
  obtain ⟨⟨_, _, b1, _⟩, _⟩ := frB_of h1
  obtain ⟨⟨_, _, d1, _⟩, _⟩ := frB_of h2
  obtain ⟨⟨_, _, f1, _⟩, _⟩ := frB_of h3
  have e1 : a * d * f ≤ c * b * f := Int.mul_le_mul_of_nonneg_right p (by omega)
  have e2 : c * f * b ≤ e * d * b := Int.mul_le_mul_of_nonneg_right q (by omega)
  have e3 : a * f * d ≤ e * b * d := by
    have r1 : a * f * d = a * d * f := by rw [Int.mul_assoc, Int.mul_comm f d, ← Int.mul_assoc]
    have r2 : c * b * f = c * f * b := by rw [Int.mul_assoc, Int.mul_comm b f, ← Int.mul_assoc]
    have r3 : e * d * b = e * b * d := by rw [Int.mul_assoc, Int.mul_comm d b, ← Int.mul_assoc]
    omega
  exact Int.le_of_mul_le_mul_right e3 (by omega)

theorem cmpA_self (a b : Int) : cmpA a b a b = 0 := by have := cmpA_flip a b a b; omega
theorem ivB_one (n m : Int) : ivB n m n m = frB n m := by unfold ivB; rw [cmpA_self]; cases frB n m <;> rfl

/-- Contains is LiesWithin of a single value. -/
theorem liB_one (a b c d n m : Int) : liB n m n m a b c d = coB a b c d n m := by
  unfold liB coB
  rw [ivB_one]
  cases frB n m <;> cases ivB a b c d <;> rfl

/-- Equal order, equal fractions: where neither is above the other, either may be taken. -/
theorem cmpA_same {a b c d : Int} (h1 : frB a b = true) (h2 : frB c d = true) (h : cmpA a b c d = 0) : a = c ∧ b = d := by
  have e1 := (cmpA_le h1 h2).1 (by omega)
  have e2 := (cmpA_le h2 h1).1 (by have := cmpA_flip a b c d; omega)
  exact frac_ext h1 h2 (by omega)

/-- Whether the two meet: neither lies below the other. -/
def mjB (a b c d e f g h : Int) : Bool := (ivB a b c d && ivB e f g h) && (!decide (cmpA c d e f < 0) && !decide (cmpA g h a b < 0))
def mjL (a b e f : Int) : Int × Int := if 0 < cmpA a b e f then (a, b) else (e, f)
def mjH (c d g h : Int) : Int × Int := if cmpA c d g h < 0 then (c, d) else (g, h)
end Go.Proofs.YtndebdimjlfepaaDoor.Num

/-! ### FiPlain -/
namespace Go.Proofs.YtndebdimjlfepaaDoor.Num
open Go

/-- The digits of k, none for 0. -/
def dd (k : Nat) : List UInt8 := if k = 0 then [] else Lib.decDigits k

theorem dd_step (k : Nat) (h : k ≠ 0) : dd k = dd (k / 10) ++ [UInt8.ofNat (48 + k % 10)] := by
  unfold dd
  rw [if_neg h]
  by_cases hs : k < 10
  · rw [Lib.decDigits, dif_pos hs, if_pos (by omega), Nat.mod_eq_of_lt hs]; rfl
  · rw [Lib.decDigits, dif_neg hs, if_neg (by omega)]

theorem fi_step {k u : Nat} {acc : List UInt8} (h : dd k ++ acc = dd u) (hk : k ≠ 0) : dd (k / 10) ++ (UInt8.ofNat (48 + k % 10) :: acc) = dd u := by
  rw [← h, dd_step k hk]; simp

theorem fi_end {u : Nat} {acc : List UInt8} (h : dd 0 ++ acc = dd u) : acc = dd u := by rw [← h]; rfl

theorem dd_pos (u : Nat) (h : u ≠ 0) : dd u = Lib.decDigits u := by unfold dd; rw [if_neg h]

theorem itoa_dd (u : Nat) (h : u ≠ 0) : Lib.itoa (u : Int) = dd u := by rw [Lib.itoa_nonneg, dd_pos u h]
theorem itoa_neg_dd (u : Nat) (h : u ≠ 0) : Lib.itoa (-(u : Int)) = 45 :: dd u := by rw [Lib.itoa_neg u (by omega), dd_pos u h]
theorem itoa_zero : Lib.itoa 0 = [48] := by
  rw [show (0 : Int) = ((0 : Nat) : Int) from rfl, Lib.itoa_nonneg, Lib.decDigits, dif_pos (by decide)]
  rfl

theorem dd_len (u : Nat) (h : u ≤ 9223372036854775808) : (dd u).length ≤ 21 := by
  by_cases h0 : u = 0
  · subst h0; decide
  · have := Lib.itoa_length_le (-(u : Int)) (by omega) (by omega)
    rw [itoa_neg_dd u h0] at this
    simp at this
    omega

theorem fi_len {k u : Nat} {acc : List UInt8} (h : dd k ++ acc = dd u) (hu : u ≤ 9223372036854775808) : acc.length ≤ 21 := by
  have := dd_len u hu
  rw [← h, List.length_append] at this
  omega

theorem cat2 (b : UInt8) (acc : List UInt8) : (⟨#[b]⟩ : ByteArray) ++ (⟨acc.toArray⟩ : ByteArray) = ⟨(b :: acc).toArray⟩ := by
  apply ByteArray.ext
  simp

theorem u8m (n : Nat) (h : n < 256) : (UInt8.ofNat n).toNat = n := by simp; omega
end Go.Proofs.YtndebdimjlfepaaDoor.Num

/-! ### PiPlain -/
namespace Go.Proofs.YtndebdimjlfepaaDoor.Num
open Go

theorem decD_small {u : Nat} (h : u < 10) : Lib.decDigits u = [UInt8.ofNat (48 + u)] := by rw [Lib.decDigits, dif_pos h]
theorem decD_big {u : Nat} (h : ¬ u < 10) : Lib.decDigits u = Lib.decDigits (u / 10) ++ [UInt8.ofNat (48 + u % 10)] := by rw [Lib.decDigits, dif_neg h]

/-- A byte is a digit. -/
def isD (b : UInt8) : Prop := 48 ≤ b.toNat ∧ b.toNat ≤ 57
instance (b : UInt8) : Decidable (isD b) := inferInstanceAs (Decidable (_ ∧ _))

/-- The number that a list of digits writes. -/
def val (l : List UInt8) : Nat := l.foldl (fun n b => n * 10 + (b.toNat - 48)) 0
theorem val_snoc (l : List UInt8) (b : UInt8) : val (l ++ [b]) = val l * 10 + (b.toNat - 48) := by unfold val; rw [List.foldl_append]; rfl

theorem dec_all : ∀ (u : Nat), ∀ b ∈ Lib.decDigits u, isD b := by
  intro u
  induction u using Nat.strongRecOn with
  | _ u ih =>
    intro b hb
    by_cases h : u < 10
    · rw [decD_small h, List.mem_singleton] at hb
      subst hb
      unfold isD
      rw [u8m _ (by omega)]
      omega
    · rw [decD_big h, List.mem_append] at hb
      rcases hb with hb | hb
      · exact ih (u / 10) (by omega) b hb
      · rw [List.mem_singleton] at hb
        subst hb
        unfold isD
        rw [u8m _ (by omega)]
        omega

theorem dec_val : ∀ (u : Nat), val (Lib.decDigits u) = u := by
  intro u
  induction u using Nat.strongRecOn with
  | _ u ih =>
    by_cases h : u < 10
    · rw [decD_small h]
      show 0 * 10 + ((UInt8.ofNat (48 + u)).toNat - 48) = u
      rw [u8m _ (by omega)]
      omega
    · rw [decD_big h, val_snoc, ih (u / 10) (by omega), u8m _ (by omega)]
      omega

theorem dec_len : ∀ (k u : Nat), u < 10 ^ (k + 1) → (Lib.decDigits u).length ≤ k + 1
  | 0, u, h => by rw [decD_small (by simpa using h)]; simp
  | k + 1, u, h => by
    by_cases hs : u < 10
    · rw [decD_small hs]; simp
    · rw [decD_big hs]
      have := dec_len k (u / 10) (by rw [Nat.pow_succ] at h; omega)
      simp; omega

theorem dec_len9 (u : Nat) (h : u ≤ 999999999) : (Lib.decDigits u).length ≤ 9 := by
  have e : (10 : Nat) ^ (8 + 1) = 1000000000 := by decide
  exact dec_len 8 u (by omega)

theorem dec_ne (u : Nat) : Lib.decDigits u ≠ [] := by
  by_cases h : u < 10
  · rw [decD_small h]; simp
  · rw [decD_big h]; simp

theorem val_bd : ∀ (k : Nat) (l : List UInt8), (∀ b ∈ l, isD b) → l.length ≤ k → val l < 10 ^ k := by
  intro k l
  have H : ∀ (r : List UInt8) (a : Nat), (∀ b ∈ r, isD b) → r.foldl (fun n b => n * 10 + (b.toNat - 48)) a < (a + 1) * 10 ^ r.length := by
    intro r
    induction r with
    | nil => intro a _; simp
    | cons c r ih =>
      intro a hd
      have hc := hd c (by simp)
      unfold isD at hc
      have h := ih (a * 10 + (c.toNat - 48)) (fun b hb => hd b (by simp [hb]))
      rw [List.foldl_cons, List.length_cons, Nat.pow_succ]
      refine Nat.lt_of_lt_of_le h ?_
      rw [Nat.mul_comm (10 ^ r.length) 10, ← Nat.mul_assoc]
      exact Nat.mul_le_mul_right _ (by omega)
  intro hd hl
  have := H l 0 hd
  simp only [Nat.zero_add, Nat.one_mul] at this
  exact Nat.lt_of_lt_of_le this (Nat.pow_le_pow_right (by decide) hl)

/-- What ParseInt reads. -/
def PIok (l : List UInt8) (n : Int) : Prop := -999999999 ≤ n ∧ n ≤ 999999999 ∧ l = Lib.itoa n

/-- A text as sign and rest. -/
def Cut (l d : List UInt8) (neg : Bool) : Prop := (neg = true ∧ l = 45 :: d) ∨ (neg = false ∧ l = d ∧ d.head? ≠ some 45)

/-- The number of sign and rest. -/
def sg (neg : Bool) (u : Nat) : Int := if neg then -(u : Int) else u

theorem cut_ok {l d : List UInt8} {neg : Bool} (hc : Cut l d neg) {m : Int} (h : PIok l m) : ∃ u : Nat, u ≤ 999999999 ∧ d = Lib.decDigits u ∧ m = sg neg u := by
  obtain ⟨h1, h2, h3⟩ := h
  rcases Int.lt_or_le m 0 with hm | hm
  · obtain ⟨u, rfl⟩ : ∃ u : Nat, m = -(u : Int) := ⟨m.natAbs, by omega⟩
    rw [Lib.itoa_neg u (by omega)] at h3
    rcases hc with ⟨rfl, hc⟩ | ⟨rfl, rfl, hc⟩
    · rw [hc] at h3
      exact ⟨u, by omega, (List.cons.inj h3).2, rfl⟩
    · rw [h3] at hc
      simp at hc
  · obtain ⟨u, rfl⟩ := Int.eq_ofNat_of_zero_le hm
    rw [Lib.itoa_nonneg] at h3
    rcases hc with ⟨rfl, hc⟩ | ⟨rfl, rfl, hc⟩
    · rw [hc] at h3
      have := dec_all u 45 (by rw [← h3]; simp)
      unfold isD at this
      simp at this
    · exact ⟨u, by omega, h3, rfl⟩

theorem PIok_unique {l : List UInt8} {n m : Int} (h : PIok l n) (h' : PIok l m) : n = m := by
  have hcut : ∃ d neg, Cut l d neg := by
    cases l with
    | nil => exact ⟨[], false, .inr ⟨rfl, rfl, by simp⟩⟩
    | cons b r =>
      by_cases hb : b = 45
      · subst hb; exact ⟨r, true, .inl ⟨rfl, rfl⟩⟩
      · exact ⟨b :: r, false, .inr ⟨rfl, rfl, by simpa using hb⟩⟩
  obtain ⟨d, neg, hc⟩ := hcut
  obtain ⟨u, _, h1, rfl⟩ := cut_ok hc h
  obtain ⟨v, _, h2, rfl⟩ := cut_ok hc h'
  have : u = v := by rw [← dec_val u, ← h1, h2, dec_val]
  rw [this]

/-- What both functions answer: the number, or that there is none. -/
def PIans (l : List UInt8) (n : Int) (ok : Bool) : Prop := (ok = true ∧ PIok l n) ∨ (ok = false ∧ n = 0 ∧ ∀ m, ¬ PIok l m)

theorem PIans_unique {l : List UInt8} {n m : Int} {a b : Bool} (h : PIans l n a) (h' : PIans l m b) : n = m ∧ a = b := by
  rcases h with ⟨rfl, h⟩ | ⟨rfl, rfl, h⟩ <;> rcases h' with ⟨rfl, h'⟩ | ⟨rfl, rfl, h'⟩
  · exact ⟨PIok_unique h h', rfl⟩
  · exact absurd h (h' n)
  · exact absurd h' (h m)
  · exact ⟨rfl, rfl⟩

/-! The model counts digits wherever they stand. -/
def fN (l : List UInt8) : Nat := l.foldl (fun n b => if isD b then n * 10 + (b.toNat - 48) else n) 0
def fK (l : List UInt8) : Nat := l.foldl (fun n b => if isD b then n + 1 else n) 0
theorem fN_snoc (l : List UInt8) (b : UInt8) : fN (l ++ [b]) = if isD b then fN l * 10 + (b.toNat - 48) else fN l := by unfold fN; rw [List.foldl_append]; rfl
theorem fK_snoc (l : List UInt8) (b : UInt8) : fK (l ++ [b]) = if isD b then fK l + 1 else fK l := by unfold fK; rw [List.foldl_append]; rfl

theorem fN_digits (l : List UInt8) (a : Nat) (h : ∀ b ∈ l, isD b) : l.foldl (fun n b => if isD b then n * 10 + (b.toNat - 48) else n) a = l.foldl (fun n b => n * 10 + (b.toNat - 48)) a := by
  induction l generalizing a with
  | nil => rfl
  | cons c l ih =>
    rw [List.foldl_cons, List.foldl_cons, if_pos (h c (by simp))]
    exact ih _ (fun b hb => h b (by simp [hb]))
theorem fK_digits (l : List UInt8) (a : Nat) (h : ∀ b ∈ l, isD b) : l.foldl (fun n b => if isD b then n + 1 else n) a = a + l.length := by
  induction l generalizing a with
  | nil => rfl
  | cons c l ih =>
    rw [List.foldl_cons, if_pos (h c (by simp)), ih _ (fun b hb => h b (by simp [hb])), List.length_cons]
    omega

theorem cut_fold {l d : List UInt8} {neg : Bool} (hc : Cut l d neg) (hd : ∀ b ∈ d, isD b) : fN l = val d ∧ fK l = d.length := by
  have hN : fN d = val d := fN_digits d 0 hd
  have hK : fK d = d.length := by have := fK_digits d 0 hd; rw [Nat.zero_add] at this; exact this
  rcases hc with ⟨_, rfl⟩ | ⟨_, rfl, _⟩
  · have n45 : ¬ isD 45 := by decide
    constructor
    · rw [← hN]; unfold fN; rw [List.foldl_cons, if_neg n45]
    · rw [← hK]; unfold fK; rw [List.foldl_cons, if_neg n45]
  · exact ⟨hN, hK⟩

theorem fN_bd (l : List UInt8) : fN l < 10 ^ fK l := by
  have H : ∀ (r : List UInt8) (a k : Nat), a < 10 ^ k → r.foldl (fun n b => if isD b then n * 10 + (b.toNat - 48) else n) a < 10 ^ (r.foldl (fun n b => if isD b then n + 1 else n) k) := by
    intro r
    induction r with
    | nil => intro a k h; exact h
    | cons c r ih =>
      intro a k h
      rw [List.foldl_cons, List.foldl_cons]
      by_cases hc : isD c
      · rw [if_pos hc, if_pos hc]
        refine ih _ _ ?_
        unfold isD at hc
        rw [Nat.pow_succ]
        omega
      · rw [if_neg hc, if_neg hc]
        exact ih _ _ h
  exact H l 0 0 (by decide)

theorem fK_le (l : List UInt8) : fK l ≤ l.length := by
  have H : ∀ (r : List UInt8) (k : Nat), r.foldl (fun n b => if isD b then n + 1 else n) k ≤ k + r.length := by
    intro r
    induction r with
    | nil => intro k; simp
    | cons c r ih =>
      intro k
      rw [List.foldl_cons, List.length_cons]
      by_cases hc : isD c
      · rw [if_pos hc]; have := ih (k + 1); omega
      · rw [if_neg hc]; have := ih k; omega
  have := H l 0
  rw [Nat.zero_add] at this
  exact this

theorem pi_none {l d : List UInt8} {neg : Bool} (hc : Cut l d neg) (h : ∀ u, u ≤ 999999999 → d = Lib.decDigits u → l = Lib.itoa (sg neg u) → False) : PIans l 0 false :=
  .inr ⟨rfl, rfl, fun m hm => by
    obtain ⟨u, h1, h2, h3⟩ := cut_ok hc hm
    exact h u h1 h2 (by rw [← h3]; exact hm.2.2)⟩

theorem pi_many {l d : List UInt8} {neg : Bool} (hc : Cut l d neg) (hk : 9 < fK l) : PIans l 0 false := by
  refine pi_none hc fun u h1 h2 _ => ?_
  have := (cut_fold hc (by rw [h2]; exact dec_all u)).2
  have := dec_len9 u h1
  rw [← h2] at this
  omega

theorem pi_long {l d : List UInt8} {neg : Bool} (hc : Cut l d neg) (hk : 10 < l.length) : PIans l 0 false := by
  refine pi_none hc fun u h1 h2 _ => ?_
  have := dec_len9 u h1
  rw [← h2] at this
  rcases hc with ⟨_, rfl⟩ | ⟨_, rfl, _⟩
  · simp at hk; omega
  · omega

theorem pi_other {l d : List UInt8} {neg : Bool} (hc : Cut l d neg) (hne : ¬ l = Lib.itoa (sg neg (fN l))) : PIans l 0 false := by
  refine pi_none hc fun u h1 h2 h3 => hne ?_
  have := (cut_fold hc (by rw [h2]; exact dec_all u)).1
  rw [h2, dec_val] at this
  rw [this]
  exact h3

theorem pi_yes {l : List UInt8} {neg : Bool} (hk : fK l ≤ 9) (he : l = Lib.itoa (sg neg (fN l))) : PIans l (sg neg (fN l)) true := by
  have h1 := fN_bd l
  have h2 : 10 ^ fK l ≤ 10 ^ 9 := Nat.pow_le_pow_right (by decide) hk
  have e : (10 : Nat) ^ 9 = 1000000000 := by decide
  refine .inl ⟨rfl, ?_, ?_, he⟩
  · unfold sg; split <;> omega
  · unfold sg; split <;> omega
end Go.Proofs.YtndebdimjlfepaaDoor.Num

/-! ### CutPlain -/
namespace Go.Proofs.YtndebdimjlfepaaDoor.Num
open Go

/-- a is what stands in l ahead of the first c, b what stands behind it; 'has': there is one. -/
def CutOn (c : UInt8) (l a b : List UInt8) (has : Bool) : Prop := c ∉ a ∧ ((has = true ∧ l = a ++ c :: b) ∨ (has = false ∧ l = a ∧ b = []))

theorem index1 (c : UInt8) : ∀ l : List UInt8, (Lib.index l [c] = -1 ∧ c ∉ l) ∨ ∃ a b, l = a ++ c :: b ∧ c ∉ a ∧ Lib.index l [c] = (a.length : Int)
  | [] => .inl ⟨rfl, by simp⟩
  | x :: l => by
    by_cases hx : x = c
    · subst hx
      exact .inr ⟨[], l, rfl, by simp, by unfold Lib.index; simp [List.isPrefixOf]⟩
    · have h0 : ([c] : List UInt8).isPrefixOf (x :: l) = false := by simp [List.isPrefixOf]; exact fun e => hx e.symm
      rcases index1 c l with ⟨h1, h2⟩ | ⟨a, b, rfl, h2, h3⟩
      · exact .inl ⟨by unfold Lib.index; rw [h0, h1]; rfl, by simp; exact ⟨fun e => hx e.symm, h2⟩⟩
      · refine .inr ⟨x :: a, b, rfl, by simp; exact ⟨fun e => hx e.symm, h2⟩, ?_⟩
        unfold Lib.index
        rw [h0, h3]
        have : ((a.length : Int) == -1) = false := by rw [beq_eq_false_iff_ne]; omega
        rw [this]
        simp

theorem cut_on (c : UInt8) (l : List UInt8) : CutOn c l (Lib.cut l [c]).1 (Lib.cut l [c]).2.1 (Lib.cut l [c]).2.2 := by
  unfold Lib.cut
  rcases index1 c l with ⟨h1, h2⟩ | ⟨a, b, rfl, h2, h3⟩
  · rw [h1]
    exact ⟨h2, .inr ⟨rfl, rfl, rfl⟩⟩
  · rw [h3, if_pos (by omega)]
    have e : ((a.length : Int)).toNat = a.length := by omega
    have e2 : a ++ c :: b = (a ++ [c]) ++ b := by simp
    refine ⟨?_, .inl ⟨rfl, ?_⟩⟩
    · simpa [e] using h2
    · simp only [e, List.length_singleton]
      rw [List.take_left' rfl, e2, List.drop_left' (by simp)]
      exact e2.symm

theorem app_unique {c : UInt8} : ∀ {a a' b b' : List UInt8}, c ∉ a → c ∉ a' → a ++ c :: b = a' ++ c :: b' → a = a' ∧ b = b'
  | [], [], b, b', _, _, h => ⟨rfl, by simpa using h⟩
  | [], x :: a', b, b', _, h', h => by simp at h; simp [h.1] at h'
  | x :: a, [], b, b', h', _, h => by simp at h; simp [h.1] at h'
  | x :: a, y :: a', b, b', h1, h2, h => by
    simp only [List.cons_append, List.cons.injEq] at h
    simp only [List.mem_cons, not_or] at h1 h2
    obtain ⟨e1, e2⟩ := app_unique h1.2 h2.2 h.2
    exact ⟨by rw [h.1, e1], e2⟩

/-- The pieces of l between the c. -/
def pieces (c : UInt8) : List UInt8 → List (List UInt8)
  | [] => [[]]
  | b :: l => if b = c then [] :: pieces c l else match pieces c l with | [] => [[b]] | p :: r => (b :: p) :: r

theorem pieces_cut (c : UInt8) : ∀ (a b : List UInt8), c ∉ a → pieces c (a ++ c :: b) = a :: pieces c b
  | [], b, _ => by simp [pieces]
  | x :: a, b, h => by
    simp only [List.mem_cons, not_or] at h
    rw [List.cons_append, pieces, if_neg (fun e => h.1 e.symm), pieces_cut c a b h.2]

theorem pieces_none (c : UInt8) : ∀ (a : List UInt8), c ∉ a → pieces c a = [a]
  | [], _ => rfl
  | x :: a, h => by
    simp only [List.mem_cons, not_or] at h
    rw [pieces, if_neg (fun e => h.1 e.symm), pieces_none c a h.2]

theorem pieces_len (c : UInt8) : ∀ (l : List UInt8), 1 ≤ (pieces c l).length ∧ (pieces c l).length ≤ l.length + 1
  | [] => by simp [pieces]
  | x :: l => by
    have ih := pieces_len c l
    rw [pieces]
    split
    · simp only [List.length_cons]; omega
    · split
      · next h => rw [h] at ih; simp at ih
      · next h => rw [h] at ih; simp only [List.length_cons] at ih ⊢; omega
end Go.Proofs.YtndebdimjlfepaaDoor.Num

/-! ### FrText -/
namespace Go.Proofs.YtndebdimjlfepaaDoor.Num
open Go

/-- The format of n / d. -/
def fmtF (n d : Int) : List UInt8 := if frB n d = true then (if d = 1 then Lib.itoa n else Lib.itoa n ++ 47 :: Lib.itoa d) else []

theorem fmtF_no {n d : Int} (h : frB n d = false) : fmtF n d = [] := by unfold fmtF; rw [h]; rfl
theorem fmtF_one {n : Int} (h : frB n 1 = true) : fmtF n 1 = Lib.itoa n := by unfold fmtF; rw [if_pos h, if_pos rfl]
theorem fmtF_two {n d : Int} (h : frB n d = true) (hd : d ≠ 1) : fmtF n d = Lib.itoa n ++ 47 :: Lib.itoa d := by unfold fmtF; rw [if_pos h, if_neg hd]

theorem itoa_slash (n : Int) : (47 : UInt8) ∉ Lib.itoa n := by
  intro h
  unfold Lib.itoa at h
  split at h
  · rcases List.mem_cons.1 h with h | h
    · cases h
    · have := dec_all _ _ h; unfold isD at this; simp at this
  · have := dec_all _ _ h; unfold isD at this; simp at this

theorem itoa_ne (n : Int) : Lib.itoa n ≠ [] := by
  unfold Lib.itoa
  split
  · simp
  · exact dec_ne _

theorem frB_one {n : Int} (h1 : -999999999 ≤ n) (h2 : n ≤ 999999999) : frB n 1 = true := frB_yes ⟨h1, h2, by omega, by omega⟩ (by simp)

theorem fmt_cut {n d : Int} (h : frB n d = true) {a b : List UInt8} {has : Bool} (hc : CutOn 47 (fmtF n d) a b has) :
    PIok a n ∧ ((d = 1 ∧ has = false) ∨ (d ≠ 1 ∧ has = true ∧ PIok b d)) := by
  obtain ⟨⟨l1, l2, l3, l4⟩, _⟩ := frB_of h
  by_cases hd : d = 1
  · subst hd
    rw [fmtF_one h] at hc
    obtain ⟨hm, ⟨rfl, e⟩ | ⟨rfl, e, _⟩⟩ := hc
    · exact absurd (by rw [e]; simp) (itoa_slash n)
    · exact ⟨⟨l1, l2, e.symm⟩, .inl ⟨rfl, rfl⟩⟩
  · rw [fmtF_two h hd] at hc
    obtain ⟨hm, ⟨rfl, e⟩ | ⟨rfl, e, _⟩⟩ := hc
    · obtain ⟨rfl, rfl⟩ := app_unique (itoa_slash n) hm e
      exact ⟨⟨l1, l2, rfl⟩, .inr ⟨hd, rfl, by omega, by omega, rfl⟩⟩
    · rw [← e] at hm
      exact absurd (by simp) hm

/-- What both functions read: a fraction, or that there is none. -/
def PFans (l : List UInt8) (n d : Int) (ok : Bool) : Prop := (ok = true ∧ frB n d = true ∧ l = fmtF n d) ∨ (ok = false ∧ n = 0 ∧ d = 0 ∧ ∀ m e, frB m e = true → l ≠ fmtF m e)

theorem cut_any (c : UInt8) (l : List UInt8) : ∃ a b has, CutOn c l a b has := ⟨_, _, _, cut_on c l⟩

theorem fmt_unique {n d m e : Int} (h : frB n d = true) (h' : frB m e = true) (heq : fmtF n d = fmtF m e) : n = m ∧ d = e := by
  obtain ⟨a, b, has, hc⟩ := cut_any 47 (fmtF n d)
  obtain ⟨p1, q1⟩ := fmt_cut h hc
  rw [heq] at hc
  obtain ⟨p2, q2⟩ := fmt_cut h' hc
  refine ⟨PIok_unique p1 p2, ?_⟩
  rcases q1 with ⟨rfl, h1⟩ | ⟨_, h1, r1⟩ <;> rcases q2 with ⟨rfl, h2⟩ | ⟨_, h2, r2⟩
  · rfl
  · rw [h1] at h2; cases h2
  · rw [h1] at h2; cases h2
  · exact PIok_unique r1 r2

theorem PFans_unique {l : List UInt8} {n d m e : Int} {x y : Bool} (h : PFans l n d x) (h' : PFans l m e y) : n = m ∧ d = e ∧ x = y := by
  rcases h with ⟨rfl, h, e1⟩ | ⟨rfl, rfl, rfl, h⟩ <;> rcases h' with ⟨rfl, h', e2⟩ | ⟨rfl, rfl, rfl, h'⟩
  · obtain ⟨r1, r2⟩ := fmt_unique h h' (by rw [← e1, ← e2])
    exact ⟨r1, r2, rfl⟩
  · exact absurd e1 (h' _ _ h)
  · exact absurd e2 (h _ _ h')
  · exact ⟨rfl, rfl, rfl⟩

/-- The numbers ahead of and behind the stroke (1 where there is none). -/
def DenAns (b : List UInt8) (has : Bool) (den : Int) : Prop := (has = false ∧ den = 1) ∨ (has = true ∧ ∃ k, PIans b den k)

theorem pf_no {l a b : List UInt8} {has k : Bool} {num den : Int} (hc : CutOn 47 l a b has) (ha : PIans a num k) (hb : DenAns b has den) (hne : l ≠ fmtF num den) : PFans l 0 0 false := by
  refine .inr ⟨rfl, rfl, rfl, fun m e h heq => hne ?_⟩
  rw [heq] at hc
  obtain ⟨p1, q1⟩ := fmt_cut h hc
  have hm : num = m := by
    rcases ha with ⟨_, ha⟩ | ⟨_, _, ha⟩
    · exact PIok_unique ha p1
    · exact absurd p1 (ha m)
  have he : den = e := by
    rcases q1 with ⟨rfl, h1⟩ | ⟨_, h1, r1⟩ <;> rcases hb with ⟨h2, h3⟩ | ⟨h2, k, h3⟩
    · exact h3
    · rw [h1] at h2; cases h2
    · rw [h1] at h2; cases h2
    · rcases h3 with ⟨_, h3⟩ | ⟨_, _, h3⟩
      · exact PIok_unique h3 r1
      · exact absurd r1 (h3 e)
  rw [hm, he]; exact heq

theorem pf_yes {l : List UInt8} {num den : Int} (hl : l ≠ []) (he : l = fmtF num den) : PFans l num den true := by
  refine .inl ⟨rfl, ?_, he⟩
  cases h : frB num den
  · exact absurd (by rw [he, fmtF_no h]) hl
  · rfl

theorem pf_nil : PFans [] 0 0 false := by
  refine .inr ⟨rfl, rfl, rfl, fun m e h heq => ?_⟩
  obtain ⟨p1, _⟩ := fmt_cut (a := []) (b := []) (has := false) h (by rw [← heq]; exact ⟨by simp, .inr ⟨rfl, rfl, rfl⟩⟩)
  exact itoa_ne m p1.2.2.symm

theorem pf_badnum {l a b : List UInt8} {has : Bool} (hc : CutOn 47 l a b has) (ha : PIans a 0 false) : PFans l 0 0 false := by
  refine .inr ⟨rfl, rfl, rfl, fun m e h heq => ?_⟩
  rw [heq] at hc
  obtain ⟨p1, _⟩ := fmt_cut h hc
  rcases ha with ⟨h', _⟩ | ⟨_, _, ha⟩
  · cases h'
  · exact ha m p1

theorem pf_badden {l a b : List UInt8} (hc : CutOn 47 l a b true) (hb : PIans b 0 false) : PFans l 0 0 false := by
  refine .inr ⟨rfl, rfl, rfl, fun m e h heq => ?_⟩
  rw [heq] at hc
  obtain ⟨_, ⟨_, h1⟩ | ⟨_, _, r1⟩⟩ := fmt_cut h hc
  · cases h1
  · rcases hb with ⟨h', _⟩ | ⟨_, _, hb⟩
    · cases h'
    · exact hb e r1

theorem pf_three {l a b a' b' : List UInt8} (hc : CutOn 47 l a b true) (hc' : CutOn 47 b a' b' true) : PFans l 0 0 false := by
  refine .inr ⟨rfl, rfl, rfl, fun m e h heq => ?_⟩
  rw [heq] at hc
  obtain ⟨_, ⟨_, h1⟩ | ⟨_, _, r1⟩⟩ := fmt_cut h hc
  · cases h1
  · obtain ⟨_, ⟨_, e'⟩ | ⟨h1, _⟩⟩ := hc'
    · refine itoa_slash e ?_
      rw [← r1.2.2, e']
      simp
    · cases h1
end Go.Proofs.YtndebdimjlfepaaDoor.Num

/-! ### IvText -/
namespace Go.Proofs.YtndebdimjlfepaaDoor.Num
open Go

/-- The format of a / b to c / d. -/
def fmtI (a b c d : Int) : List UInt8 := if ivB a b c d = true then (if a = c ∧ b = d then fmtF a b else fmtF a b ++ 46 :: 46 :: fmtF c d) else []
theorem fmtI_no {a b c d : Int} (h : ivB a b c d = false) : fmtI a b c d = [] := by unfold fmtI; rw [if_neg (by rw [h]; simp)]
theorem fmtI_one {a b : Int} (h : ivB a b a b = true) : fmtI a b a b = fmtF a b := by unfold fmtI; rw [if_pos h, if_pos ⟨rfl, rfl⟩]
theorem fmtI_two {a b c d : Int} (h : ivB a b c d = true) (hne : ¬ (a = c ∧ b = d)) : fmtI a b c d = fmtF a b ++ 46 :: 46 :: fmtF c d := by unfold fmtI; rw [if_pos h, if_neg hne]

theorem itoa_dot (n : Int) : (46 : UInt8) ∉ Lib.itoa n := by
  intro h
  unfold Lib.itoa at h
  split at h
  · rcases List.mem_cons.1 h with h | h
    · cases h
    · have := dec_all _ _ h; unfold isD at this; simp at this
  · have := dec_all _ _ h; unfold isD at this; simp at this

theorem fmtF_dot (n d : Int) : (46 : UInt8) ∉ fmtF n d := by
  unfold fmtF
  split
  · split
    · exact itoa_dot n
    · simp only [List.mem_append, List.mem_cons, not_or]
      exact ⟨itoa_dot n, by decide, itoa_dot d⟩
  · simp

theorem fmtF_ne {n d : Int} (h : frB n d = true) : fmtF n d ≠ [] := by
  intro e
  by_cases hd : d = 1
  · subst hd; rw [fmtF_one h] at e; exact itoa_ne n e
  · rw [fmtF_two h hd] at e; simp at e

/-- What ParseInterval answers. -/
def PIv (l : List UInt8) (a b c d : Int) (ok : Bool) : Prop := (ok = true ∧ ivB a b c d = true ∧ l = fmtI a b c d) ∨ (ok = false ∧ a = 0 ∧ b = 0 ∧ c = 0 ∧ d = 0 ∧ ∀ x y u v, ivB x y u v = true → l ≠ fmtI x y u v)

/-- A format is read back: the text ahead of the first point, and what follows the second. -/
theorem fmtI_cut {x y u v : Int} (h : ivB x y u v = true) {p q : List UInt8} {has : Bool} (hc : CutOn 46 (fmtI x y u v) p q has) :
    p = fmtF x y ∧ ((x = u ∧ y = v ∧ has = false) ∨ (¬ (x = u ∧ y = v) ∧ has = true ∧ q = 46 :: fmtF u v)) := by
  by_cases he : x = u ∧ y = v
  · obtain ⟨rfl, rfl⟩ := he
    rw [fmtI_one h] at hc
    obtain ⟨hm, ⟨rfl, e⟩ | ⟨rfl, e, _⟩⟩ := hc
    · exact absurd (by rw [e]; simp) (fmtF_dot x y)
    · exact ⟨e.symm, .inl ⟨rfl, rfl, rfl⟩⟩
  · rw [fmtI_two h he] at hc
    obtain ⟨hm, ⟨rfl, e⟩ | ⟨rfl, e, _⟩⟩ := hc
    · obtain ⟨rfl, rfl⟩ := app_unique (fmtF_dot x y) hm e
      exact ⟨rfl, .inr ⟨he, rfl, rfl⟩⟩
    · rw [← e] at hm
      exact absurd (by simp) hm

theorem fmtI_unique {a b c d x y u v : Int} (h : ivB a b c d = true) (h' : ivB x y u v = true) (heq : fmtI a b c d = fmtI x y u v) : a = x ∧ b = y ∧ c = u ∧ d = v := by
  obtain ⟨p, q, has, hc⟩ := cut_any 46 (fmtI a b c d)
  obtain ⟨p1, q1⟩ := fmtI_cut h hc
  rw [heq] at hc
  obtain ⟨p2, q2⟩ := fmtI_cut h' hc
  obtain ⟨f1, f2, _⟩ := ivB_of h
  obtain ⟨g1, g2, _⟩ := ivB_of h'
  obtain ⟨rfl, rfl⟩ := fmt_unique f1 g1 (by rw [← p1, ← p2])
  rcases q1 with ⟨rfl, rfl, h1⟩ | ⟨_, h1, r1⟩ <;> rcases q2 with ⟨rfl, rfl, h2⟩ | ⟨_, h2, r2⟩
  · exact ⟨rfl, rfl, rfl, rfl⟩
  · rw [h1] at h2; cases h2
  · rw [h1] at h2; cases h2
  · rw [r1] at r2
    obtain ⟨rfl, rfl⟩ := fmt_unique f2 g2 (List.cons.inj r2).2
    exact ⟨rfl, rfl, rfl, rfl⟩

theorem PIv_unique {l : List UInt8} {a b c d x y u v : Int} {j k : Bool} (h : PIv l a b c d j) (h' : PIv l x y u v k) : a = x ∧ b = y ∧ c = u ∧ d = v ∧ j = k := by
  rcases h with ⟨rfl, h, e1⟩ | ⟨rfl, rfl, rfl, rfl, rfl, h⟩ <;> rcases h' with ⟨rfl, h', e2⟩ | ⟨rfl, rfl, rfl, rfl, rfl, h'⟩
  · obtain ⟨r1, r2, r3, r4⟩ := fmtI_unique h h' (by rw [← e1, ← e2])
    exact ⟨r1, r2, r3, r4, rfl⟩
  · exact absurd e1 (h' _ _ _ _ h)
  · exact absurd e2 (h _ _ _ _ h')
  · exact ⟨rfl, rfl, rfl, rfl, rfl⟩
end Go.Proofs.YtndebdimjlfepaaDoor.Num

/-! ### RwPlain -/
namespace Go.Proofs.YtndebdimjlfepaaDoor.Num
open Go

/-- Whether a row is valid. -/
def rowB (i g y x : Int) (nl : Bool) : Bool := decide (1 ≤ i ∧ i ≤ 99) && (decide (0 ≤ g ∧ g ≤ 3) && (decide (0 ≤ y ∧ y ≤ 8) && (decide (-99 ≤ x ∧ x ≤ 99) && (!nl || decide (x = 0)))))

theorem rowB_of {i g y x : Int} {nl : Bool} (h : rowB i g y x nl = true) : (1 ≤ i ∧ i ≤ 99) ∧ (0 ≤ g ∧ g ≤ 3) ∧ (0 ≤ y ∧ y ≤ 8) ∧ (-99 ≤ x ∧ x ≤ 99) ∧ (nl = true → x = 0) := by
  unfold rowB at h
  simp only [Bool.and_eq_true, decide_eq_true_eq, Bool.or_eq_true, Bool.not_eq_true'] at h
  obtain ⟨h1, h2, h3, h4, h5⟩ := h
  exact ⟨h1, h2, h3, h4, fun hn => h5.resolve_left (by rw [hn]; simp)⟩

theorem rowB_yes {i g y x : Int} {nl : Bool} (h1 : 1 ≤ i ∧ i ≤ 99) (h2 : 0 ≤ g ∧ g ≤ 3) (h3 : 0 ≤ y ∧ y ≤ 8) (h4 : -99 ≤ x ∧ x ≤ 99) (h5 : nl = true → x = 0) : rowB i g y x nl = true := by
  unfold rowB
  simp only [Bool.and_eq_true, decide_eq_true_eq, Bool.or_eq_true, Bool.not_eq_true']
  refine ⟨h1, h2, h3, h4, ?_⟩
  cases nl
  · exact .inl rfl
  · exact .inr (h5 rfl)

/-- The word null. -/
def nullW : List UInt8 := [110, 117, 108, 108]

/-- X's text. -/
def xT (x : Int) (nl : Bool) : List UInt8 := if nl = true then nullW else Lib.itoa x

/-- The format of a row. -/
def fmtR (i g y x : Int) (nl : Bool) : List UInt8 := if rowB i g y x nl = true then Lib.itoa i ++ 58 :: (Lib.itoa g ++ 44 :: (Lib.itoa y ++ 44 :: xT x nl)) else []

theorem fmtR_no {i g y x : Int} {nl : Bool} (h : rowB i g y x nl = false) : fmtR i g y x nl = [] := by unfold fmtR; rw [if_neg (by rw [h]; simp)]
theorem fmtR_yes {i g y x : Int} {nl : Bool} (h : rowB i g y x nl = true) : fmtR i g y x nl = Lib.itoa i ++ 58 :: (Lib.itoa g ++ 44 :: (Lib.itoa y ++ 44 :: xT x nl)) := by unfold fmtR; rw [if_pos h]

/-- A byte that is no digit and no minus sign is not in a numeral. -/
theorem itoa_not {c : UInt8} (hc : c ≠ 45) (hd : ¬ isD c) (n : Int) : c ∉ Lib.itoa n := by
  intro h
  unfold Lib.itoa at h
  split at h
  · rcases List.mem_cons.1 h with h | h
    · exact hc h
    · exact hd (dec_all _ _ h)
  · exact hd (dec_all _ _ h)
theorem itoa_colon (n : Int) : (58 : UInt8) ∉ Lib.itoa n := itoa_not (by decide) (by unfold isD; decide) n
theorem itoa_comma (n : Int) : (44 : UInt8) ∉ Lib.itoa n := itoa_not (by decide) (by unfold isD; decide) n
theorem itoa_null (n : Int) : Lib.itoa n ≠ nullW := by
  intro h
  exact itoa_not (c := 110) (by decide) (by unfold isD; decide) n (by rw [h]; unfold nullW; simp)

theorem xT_colon (x : Int) (nl : Bool) : (58 : UInt8) ∉ xT x nl := by
  unfold xT
  split
  · unfold nullW; decide
  · exact itoa_colon x
theorem xT_comma (x : Int) (nl : Bool) : (44 : UInt8) ∉ xT x nl := by
  unfold xT
  split
  · unfold nullW; decide
  · exact itoa_comma x

theorem PIok_small {n : Int} (h1 : -99 ≤ n) (h2 : n ≤ 99) : PIok (Lib.itoa n) n := ⟨by omega, by omega, rfl⟩

/-- What stands behind the colon. -/
def tailR (g y x : Int) (nl : Bool) : List UInt8 := Lib.itoa g ++ 44 :: (Lib.itoa y ++ 44 :: xT x nl)
theorem tailR_colon (g y x : Int) (nl : Bool) : (58 : UInt8) ∉ tailR g y x nl := by
  unfold tailR
  simp only [List.mem_append, List.mem_cons, not_or]
  exact ⟨itoa_colon g, by decide, itoa_colon y, by decide, xT_colon x nl⟩

theorem pieces_fmtR {i g y x : Int} {nl : Bool} (h : rowB i g y x nl = true) : pieces 58 (fmtR i g y x nl) = [Lib.itoa i, tailR g y x nl] := by
  rw [fmtR_yes h, pieces_cut _ _ _ (itoa_colon i)]
  show Lib.itoa i :: pieces 58 (tailR g y x nl) = _
  rw [pieces_none _ _ (tailR_colon g y x nl)]
theorem pieces_tailR (g y x : Int) (nl : Bool) : pieces 44 (tailR g y x nl) = [Lib.itoa g, Lib.itoa y, xT x nl] := by
  unfold tailR
  rw [pieces_cut _ _ _ (itoa_comma g), pieces_cut _ _ _ (itoa_comma y), pieces_none _ _ (xT_comma x nl)]

theorem fmtR_ne {i g y x : Int} {nl : Bool} (h : rowB i g y x nl = true) : fmtR i g y x nl ≠ [] := by
  rw [fmtR_yes h]
  simp

/-- Two valid rows of one format are one. -/
theorem fmtR_unique {i g y x i' g' y' x' : Int} {nl nl' : Bool} (h : rowB i g y x nl = true) (h' : rowB i' g' y' x' nl' = true) (he : fmtR i g y x nl = fmtR i' g' y' x' nl') : i = i' ∧ g = g' ∧ y = y' ∧ x = x' ∧ nl = nl' := by
  obtain ⟨a1, a2, a3, a4, a5⟩ := rowB_of h
  obtain ⟨b1, b2, b3, b4, b5⟩ := rowB_of h'
  have p := pieces_fmtR h
  rw [he, pieces_fmtR h'] at p
  simp only [List.cons.injEq, and_true] at p
  obtain ⟨p1, p2⟩ := p
  have q := pieces_tailR g y x nl
  rw [← p2, pieces_tailR] at q
  simp only [List.cons.injEq, and_true] at q
  obtain ⟨q1, q2, q3⟩ := q
  have num : ∀ {n m : Int}, (-99 ≤ n ∧ n ≤ 99) → (-99 ≤ m ∧ m ≤ 99) → Lib.itoa m = Lib.itoa n → n = m := fun hn hm e => PIok_unique (PIok_small hn.1 hn.2) (by rw [← e]; exact PIok_small hm.1 hm.2)
  refine ⟨num (by omega) (by omega) p1, num (by omega) (by omega) q1, num (by omega) (by omega) q2, ?_⟩
  unfold xT at q3
  cases nl <;> cases nl'
  · exact ⟨num a4 b4 (by simpa using q3), rfl⟩
  · exact absurd (by simpa using q3.symm) (itoa_null x)
  · exact absurd (by simpa using q3) (itoa_null x')
  · exact ⟨by rw [a5 rfl, b5 rfl], rfl⟩

/-- What ParseRow answers. -/
def PRow (l : List UInt8) (i g y x : Int) (nl ok : Bool) : Prop := (ok = true ∧ rowB i g y x nl = true ∧ l = fmtR i g y x nl) ∨ (ok = false ∧ i = 0 ∧ g = 0 ∧ y = 0 ∧ x = 0 ∧ nl = false ∧ ∀ i' g' y' x' nl', rowB i' g' y' x' nl' = true → l ≠ fmtR i' g' y' x' nl')

theorem PRow_unique {l : List UInt8} {i g y x i' g' y' x' : Int} {nl nl' ok ok' : Bool} (h : PRow l i g y x nl ok) (h' : PRow l i' g' y' x' nl' ok') : i = i' ∧ g = g' ∧ y = y' ∧ x = x' ∧ nl = nl' ∧ ok = ok' := by
  rcases h with ⟨rfl, h, e⟩ | ⟨rfl, rfl, rfl, rfl, rfl, rfl, h⟩ <;> rcases h' with ⟨rfl, h', e'⟩ | ⟨rfl, rfl, rfl, rfl, rfl, rfl, h'⟩
  · obtain ⟨r1, r2, r3, r4, r5⟩ := fmtR_unique h h' (by rw [← e, ← e'])
    exact ⟨r1, r2, r3, r4, r5, rfl⟩
  · exact absurd e (h' _ _ _ _ _ h)
  · exact absurd e' (h _ _ _ _ _ h')
  · exact ⟨rfl, rfl, rfl, rfl, rfl, rfl⟩

/-- A row whose format is the text: the row is read. -/
theorem PRow_yes {l : List UInt8} {i g y x : Int} {nl : Bool} (hl : l ≠ []) (he : l = fmtR i g y x nl) : PRow l i g y x nl true := by
  refine .inl ⟨rfl, ?_, he⟩
  cases h : rowB i g y x nl
  · exact absurd (by rw [he, fmtR_no h]) hl
  · rfl
theorem PRow_no {l : List UInt8} (h : ∀ i g y x nl, rowB i g y x nl = true → l ≠ fmtR i g y x nl) : PRow l 0 0 0 0 false false := .inr ⟨rfl, rfl, rfl, rfl, rfl, rfl, h⟩

theorem fmtR_len {i g y x : Int} {nl : Bool} : (fmtR i g y x nl).length ≤ 130 := by
  cases h : rowB i g y x nl
  · rw [fmtR_no h]; simp
  · obtain ⟨a1, a2, a3, a4, a5⟩ := rowB_of h
    rw [fmtR_yes h]
    have l1 := Lib.itoa_length_le i (by omega) (by omega)
    have l2 := Lib.itoa_length_le g (by omega) (by omega)
    have l3 := Lib.itoa_length_le y (by omega) (by omega)
    have l4 := Lib.itoa_length_le x (by omega) (by omega)
    simp only [List.length_append, List.length_cons]
    unfold xT nullW
    split
    · simp only [List.length_cons, List.length_nil]; omega
    · omega
end Go.Proofs.YtndebdimjlfepaaDoor.Num

namespace Go.Proofs.YtndebdimjlfepaaDoor
open Go.RowKit Num

theorem spec_fi_zero (w : World) :
    Calls Tryd.prog 38 #[.int .i64 0] w fun e w' => e = .returned (.string ⟨(Lib.itoa 0).toArray⟩) ∧ Below w.heap.size w w' := by
  rw [itoa_zero]
  go_enter Tryd.func38, Tryd.ntmps38
  go_wp2
  go_ret
  exact ⟨rfl, Below.refl _ _⟩

set_option maxRecDepth 8000 in
set_option maxHeartbeats 1600000 in
theorem spec_fi_pos (u : Nat) (w : World) (h1 : 1 ≤ u) (h2 : (u : Int) ≤ 9223372036854775807) :
    Calls Tryd.prog 38 #[.int .i64 u] w fun e w' => e = .returned (.string ⟨(Lib.itoa u).toArray⟩) ∧ Below w.heap.size w w' := by
  rw [itoa_dd u (by omega)]
  have hz : ((u : Int) == 0) = false := beq_eq_false_iff_ne.2 (by omega)
  have hn : decide ((u : Int) < 0) = false := decide_eq_false (by omega)
  have H2 : Hid ((u : Int) ≤ 9223372036854775807) := h2
  clear h2 h1
  go_enter Tryd.func38, Tryd.ntmps38
  go_wp2
  go_loopw [0, 3, 5] (fun nv ov _ wr => ∃ (k : Nat) (acc : List UInt8), nv = .int .i64 k ∧ (k : Int) ≤ 9223372036854775807 ∧ ov = .string ⟨acc.toArray⟩ ∧ Hid (dd k ++ acc = dd u) ∧ Below w.heap.size w wr) (fun nv _ _ _ => (intOf nv).toNat)
  case atStart => exact ⟨u, [], rfl, H2.out, rfl, List.append_nil _, Below.refl _ _⟩
  case round =>
    obtain ⟨k, acc, rfl, hk, rfl, HE, hbel⟩ := hrel
    have hl := fi_len HE.out (by have := H2.out; omega)
    have hsz : w.heap.size ≤ _ := hbel.size
    by_cases h0 : k = 0
    · subst h0
      go_wp2
      go_ret
      exact ⟨by rw [← fi_end HE.out]; rfl, hbel⟩
    · have hq : ((k : Int) != 0) = true := bne_iff_ne.2 (by omega)
      obtain ⟨b, hb⟩ : ∃ b, b = UInt8.ofNat (48 + k % 10) := ⟨_, rfl⟩
      have HB : Hid (b = UInt8.ofNat (48 + k % 10)) := hb
      have hcv := Bts.str1 wr (48 + (k : Int) % 10) b (by rw [hb, u8m _ (by omega)]; omega)
      have HK : Hid (k ≠ 0) := h0
      clear h0 hb
      go_wp2
      go_roundw
      case rel => exact ⟨k / 10, _, by go_num, by omega, by rw [cat2], by rw [HB.out]; exact fi_step HE.out HK.out, hbel.alloc hsz _⟩
      case measure => simp [intOf]; have := HK.out; omega

set_option maxRecDepth 8000 in
set_option maxHeartbeats 1600000 in
theorem spec_fi_neg (u : Nat) (w : World) (h1 : 1 ≤ u) (h2 : (u : Int) ≤ 9223372036854775808) :
    Calls Tryd.prog 38 #[.int .i64 (-(u : Int))] w fun e w' => e = .returned (.string ⟨(Lib.itoa (-(u : Int))).toArray⟩) ∧ Below w.heap.size w w' := by
  rw [itoa_neg_dd u (by omega)]
  have hz : (-(u : Int) == 0) = false := beq_eq_false_iff_ne.2 (by omega)
  have hn : -(u : Int) < 0 := by omega
  have H2 : Hid ((u : Int) ≤ 9223372036854775808) := h2
  clear h2 h1
  go_enter Tryd.func38, Tryd.ntmps38
  go_wp2
  go_loopw [0, 3, 5] (fun nv ov _ wr => ∃ (k : Nat) (acc : List UInt8), nv = .int .i64 (-(k : Int)) ∧ (k : Int) ≤ 9223372036854775808 ∧ ov = .string ⟨acc.toArray⟩ ∧ Hid (dd k ++ acc = dd u) ∧ Below w.heap.size w wr) (fun nv _ _ _ => (- intOf nv).toNat)
  case atStart => exact ⟨u, [], rfl, H2.out, rfl, List.append_nil _, Below.refl _ _⟩
  case round =>
    obtain ⟨k, acc, rfl, hk, rfl, HE, hbel⟩ := hrel
    have hl := fi_len HE.out (by have := H2.out; omega)
    have hsz : w.heap.size ≤ _ := hbel.size
    by_cases h0 : k = 0
    · subst h0
      go_wp2
      go_ret
      exact ⟨by rw [← fi_end HE.out, ← cat2]; rfl, hbel⟩
    · have hq : (-(k : Int) != 0) = true := bne_iff_ne.2 (by omega)
      obtain ⟨b, hb⟩ : ∃ b, b = UInt8.ofNat (48 + k % 10) := ⟨_, rfl⟩
      have HB : Hid (b = UInt8.ofNat (48 + k % 10)) := hb
      have HK : Hid (k ≠ 0) := h0
      by_cases hd : (0 : Int) < (k : Int) % 10
      · have hcv := Bts.str1 wr (48 + (k : Int) % 10) b (by rw [hb, u8m _ (by omega)]; omega)
        clear h0 hb
        go_wp2
        go_roundw
        case rel => exact ⟨k / 10, _, by go_num, by omega, by rw [cat2], by rw [HB.out]; exact fi_step HE.out HK.out, hbel.alloc hsz _⟩
        case measure => simp [intOf]; have := HK.out; omega
      · have hcv := Bts.str1 wr (48 + -((k : Int) % 10)) b (by rw [hb, u8m _ (by omega)]; omega)
        clear h0 hb
        go_wp2
        go_roundw
        case rel => exact ⟨k / 10, _, by go_num, by omega, by rw [cat2], by rw [HB.out]; exact fi_step HE.out HK.out, hbel.alloc hsz _⟩
        case measure => simp [intOf]; have := HK.out; omega

theorem spec_fi (n : Int) (w : World) (hlo : -9223372036854775808 ≤ n) (hhi : n ≤ 9223372036854775807) :
    Calls Tryd.prog 38 #[.int .i64 n] w fun e w' => e = .returned (.string ⟨(Lib.itoa n).toArray⟩) ∧ Below w.heap.size w w' := by
  rcases Int.lt_trichotomy n 0 with h | h | h
  · obtain ⟨u, rfl⟩ : ∃ u : Nat, n = -(u : Int) := ⟨n.natAbs, by omega⟩
    exact spec_fi_neg u w (by omega) (by omega)
  · subst h
    exact spec_fi_zero w
  · obtain ⟨u, rfl⟩ := Int.eq_ofNat_of_zero_le (show 0 ≤ n by omega)
    exact spec_fi_pos u w (by omega) (by omega)
end Go.Proofs.YtndebdimjlfepaaDoor

namespace Go.Proofs.YtndebdimjlfepaaDoor
open Go.RowKit

theorem l1In_yes (n lo hi : Int) (w : World) (h1 : lo ≤ n) (h2 : n ≤ hi) :
    Calls Tryd.prog 70 #[.int .i64 n, .int .i64 lo, .int .i64 hi] w fun e w' => e = .returned (.bool true) ∧ w = w' := by
  go_enter Tryd.func70, Tryd.ntmps70
  go_wp2
  go_ret
  exact ⟨rfl, rfl⟩

theorem l1In_no (n lo hi : Int) (w : World) (h : n < lo ∨ hi < n) :
    Calls Tryd.prog 70 #[.int .i64 n, .int .i64 lo, .int .i64 hi] w fun e w' => e = .returned (.bool false) ∧ w = w' := by
  by_cases h1 : n < lo
  · go_enter Tryd.func70, Tryd.ntmps70
    go_wp2
    go_ret
    exact ⟨rfl, rfl⟩
  · have h2 : hi < n := by omega
    have h3 : ¬ n ≤ hi := by omega
    have h4 : decide (n ≤ hi) = false := by simp [h3]
    clear h
    go_enter Tryd.func70, Tryd.ntmps70
    go_wp2
    go_ret
    exact ⟨rfl, rfl⟩
end Go.Proofs.YtndebdimjlfepaaDoor


/-! ### Help -/
namespace Go.Proofs.YtndebdimjlfepaaDoor
open Go.RowKit

theorem below_drewN {B : Nat} {a w : World} (h : Below B a w) (n : Nat) : Below B a (w.drewN n) := ⟨h.os, h.tape, h.output, h.size, h.block⟩

/-- A contract 'w = w'' for a quiet region. -/
theorem calls_flip {P : Program} {f : FuncId} {args : Array Value} {w : World} {v : Value} (h : Calls P f args w fun e w' => e = .returned v ∧ w = w') : Calls P f args w fun e w' => e = .returned v ∧ w' = w :=
  h.mono fun _ _ ⟨a, b⟩ => ⟨a, b.symm⟩

theorem calls_quiet {P : Program} {f : FuncId} {args : Array Value} {w : World} {n : Nat} {v : Value} (h : Calls P f args (w.drewN n) fun e w' => e = .returned v ∧ w.drewN n = w') : Calls P f args (w.drewN n) fun e w'' => e = .returned v ∧ ∃ m, w'' = w.drewN m :=
  Calls.quiet_of_same (calls_flip h)

theorem ret_bool {a b : Bool} (h : a = b) : Ending.returned (.bool a) = .returned (.bool b) := by rw [h]
theorem ret_int {a b : Int} (h : a = b) : Ending.returned (.int .i64 a) = .returned (.int .i64 b) := by rw [h]
theorem bcell {W w1 : World} (hb : Below W.heap.size W w1) : (∀ b o, b < W.heap.size → w1.cell? ⟨b, o, none⟩ = W.cell? ⟨b, o, none⟩) ∧ (∀ b o, b < W.heap.size → w1.frozen? ⟨b, o, none⟩ = W.frozen? ⟨b, o, none⟩) :=
  ⟨fun b o h => hb.cell (p := ⟨b, o, none⟩) h, fun b o h => hb.frozen (p := ⟨b, o, none⟩) h⟩

theorem box2_start (w : World) (x y : Value) (t : TypeId) :
    (w.alloc (.cells #[x, y] t)).drew.cell? ⟨w.heap.size, 0, none⟩ = some x ∧ (w.alloc (.cells #[x, y] t)).drew.cell? ⟨w.heap.size, 1, none⟩ = some y ∧ Below w.heap.size w (w.alloc (.cells #[x, y] t)).drew ∧ w.heap.size < (w.alloc (.cells #[x, y] t)).drew.heap.size := by
  refine ⟨by go_simp, by go_simp, ((Below.refl _ _).alloc (Nat.le_refl _) _).drew, ?_⟩
  show w.heap.size < (w.alloc (.cells #[x, y] t)).heap.size
  simp

theorem box2_keep {W w0 w1 : World} {x y : Option Value} {B : Nat} (h : w0.cell? ⟨B, 0, none⟩ = x ∧ w0.cell? ⟨B, 1, none⟩ = y ∧ Below B W w0 ∧ B < w0.heap.size) (hb : Below w0.heap.size w0 w1) :
    w1.cell? ⟨B, 0, none⟩ = x ∧ w1.cell? ⟨B, 1, none⟩ = y ∧ Below B W w1 ∧ B < w1.heap.size := by
  obtain ⟨h1, h2, h3, h4⟩ := h
  refine ⟨?_, ?_, h3.trans (hb.mono (by omega)), Nat.lt_of_lt_of_le h4 hb.size⟩
  · rw [hb.cell (p := ⟨B, 0, none⟩) h4]; exact h1
  · rw [hb.cell (p := ⟨B, 1, none⟩) h4]; exact h2

theorem i64_rng {a : Int} (h : (Lit.int .i64 a).wf = true) : -9223372036854775808 ≤ a ∧ a ≤ 9223372036854775807 := by
  simp only [Lit.wf, Bool.and_eq_true, decide_eq_true_eq] at h
  have e1 : IntKind.i64.min = -9223372036854775808 := by decide
  have e2 : IntKind.i64.max = 9223372036854775807 := by decide
  omega

/-- The world has at most new blocks since W, and the cells l hold what they held and may be written. -/
def Kept (W w : World) (l : List (Addr × Value)) : Prop := Below W.heap.size W w ∧ ∀ p ∈ l, p.1.block < w.heap.size ∧ w.cell? p.1 = some p.2 ∧ w.frozen? p.1 = false

theorem Kept.start (W : World) : Kept W W [] := ⟨Below.refl _ _, fun _ h => by cases h⟩

theorem Kept.step {W w w1 : World} {l : List (Addr × Value)} (h : Kept W w l) (hb : Below w.heap.size w w1) : Kept W w1 l :=
  ⟨h.1.trans (hb.mono h.1.size), fun p hp => ⟨Nat.lt_of_lt_of_le (h.2 p hp).1 hb.size, by rw [hb.cell (h.2 p hp).1]; exact (h.2 p hp).2.1, by rw [hb.frozen (h.2 p hp).1]; exact (h.2 p hp).2.2⟩⟩

theorem Kept.alloc2 {W w : World} {l : List (Addr × Value)} (h : Kept W w l) (x y : Value) (t : TypeId) (B : Nat) (hB : w.heap.size = B) :
    Kept W (w.alloc (.cells #[x, y] t)) ((⟨B, 0, none⟩, x) :: (⟨B, 1, none⟩, y) :: l) := by
  subst hB
  have h1 := h.step ((Below.refl w.heap.size w).alloc (Nat.le_refl _) (.cells #[x, y] t))
  refine ⟨h1.1, fun p hp => ?_⟩
  simp only [List.mem_cons] at hp
  rcases hp with rfl | rfl | hp
  · exact ⟨by simp, by go_simp, by go_simp⟩
  · exact ⟨by simp, by go_simp, by go_simp⟩
  · exact h1.2 p hp

theorem Kept.drew {W w : World} {l : List (Addr × Value)} (h : Kept W w l) : Kept W w.drew l := h.step (Below.refl _ _).drew

theorem Kept.get {W w : World} {l : List (Addr × Value)} (h : Kept W w l) (i : Nat) {a : Addr} {v : Value} (hi : l[i]? = some (a, v)) : w.cell? a = some v :=
  (h.2 (a, v) (List.mem_of_getElem? hi)).2.1
theorem Kept.fz {W w : World} {l : List (Addr × Value)} (h : Kept W w l) (i : Nat) {a : Addr} {v : Value} (hi : l[i]? = some (a, v)) : w.frozen? a = false :=
  (h.2 (a, v) (List.mem_of_getElem? hi)).2.2
theorem Kept.lt {W w : World} {l : List (Addr × Value)} (h : Kept W w l) (i : Nat) {a : Addr} {v : Value} (hi : l[i]? = some (a, v)) : a.block < w.heap.size :=
  (h.2 (a, v) (List.mem_of_getElem? hi)).1
end Go.Proofs.YtndebdimjlfepaaDoor

/-! ### Held -/
namespace Go.Proofs.YtndebdimjlfepaaDoor
open Go.RowKit

theorem Kept.below {W w : World} {l : List (Addr × Value)} (h : Kept W w l) : Below W.heap.size W w := h.1

theorem s2_start {W w : World} {a0 a1 : Addr} {v0 v1 : Value} {l : List (Addr × Value)} (h : Kept W w ((a0, v0) :: (a1, v1) :: l)) :
    w.drew.cell? a0 = some v0 ∧ w.drew.cell? a1 = some v1 ∧ Kept W w.drew ((a0, v0) :: (a1, v1) :: l) :=
  ⟨h.drew.get 0 rfl, h.drew.get 1 rfl, h.drew⟩
theorem s2_keep {W w w1 : World} {a0 a1 : Addr} {v0 v1 : Value} {l : List (Addr × Value)} (h : w.cell? a0 = some v0 ∧ w.cell? a1 = some v1 ∧ Kept W w ((a0, v0) :: (a1, v1) :: l)) (hb : Below w.heap.size w w1) :
    w1.cell? a0 = some v0 ∧ w1.cell? a1 = some v1 ∧ Kept W w1 ((a0, v0) :: (a1, v1) :: l) :=
  have k := h.2.2.step hb
  ⟨k.get 0 rfl, k.get 1 rfl, k⟩
theorem s4_start {W w : World} {a0 a1 a2 a3 : Addr} {v0 v1 v2 v3 : Value} {l : List (Addr × Value)} (h : Kept W w ((a0, v0) :: (a1, v1) :: (a2, v2) :: (a3, v3) :: l)) :
    w.drew.cell? a0 = some v0 ∧ w.drew.cell? a1 = some v1 ∧ w.drew.cell? a2 = some v2 ∧ w.drew.cell? a3 = some v3 ∧ Kept W w.drew ((a0, v0) :: (a1, v1) :: (a2, v2) :: (a3, v3) :: l) :=
  ⟨h.drew.get 0 rfl, h.drew.get 1 rfl, h.drew.get 2 rfl, h.drew.get 3 rfl, h.drew⟩
theorem s4_keep {W w w1 : World} {a0 a1 a2 a3 : Addr} {v0 v1 v2 v3 : Value} {l : List (Addr × Value)} (h : w.cell? a0 = some v0 ∧ w.cell? a1 = some v1 ∧ w.cell? a2 = some v2 ∧ w.cell? a3 = some v3 ∧ Kept W w ((a0, v0) :: (a1, v1) :: (a2, v2) :: (a3, v3) :: l)) (hb : Below w.heap.size w w1) :
    w1.cell? a0 = some v0 ∧ w1.cell? a1 = some v1 ∧ w1.cell? a2 = some v2 ∧ w1.cell? a3 = some v3 ∧ Kept W w1 ((a0, v0) :: (a1, v1) :: (a2, v2) :: (a3, v3) :: l) :=
  have k := h.2.2.2.2.step hb
  ⟨k.get 0 rfl, k.get 1 rfl, k.get 2 rfl, k.get 3 rfl, k⟩

theorem s6_start {W w : World} {a0 a1 a2 a3 a4 a5 : Addr} {v0 v1 v2 v3 v4 v5 : Value} {l : List (Addr × Value)} (h : Kept W w ((a0, v0) :: (a1, v1) :: (a2, v2) :: (a3, v3) :: (a4, v4) :: (a5, v5) :: l)) :
    w.drew.cell? a0 = some v0 ∧ w.drew.cell? a1 = some v1 ∧ w.drew.cell? a2 = some v2 ∧ w.drew.cell? a3 = some v3 ∧ w.drew.cell? a4 = some v4 ∧ w.drew.cell? a5 = some v5 ∧ Kept W w.drew ((a0, v0) :: (a1, v1) :: (a2, v2) :: (a3, v3) :: (a4, v4) :: (a5, v5) :: l) :=
  ⟨h.drew.get 0 rfl, h.drew.get 1 rfl, h.drew.get 2 rfl, h.drew.get 3 rfl, h.drew.get 4 rfl, h.drew.get 5 rfl, h.drew⟩
theorem s6_keep {W w w1 : World} {a0 a1 a2 a3 a4 a5 : Addr} {v0 v1 v2 v3 v4 v5 : Value} {l : List (Addr × Value)} (h : w.cell? a0 = some v0 ∧ w.cell? a1 = some v1 ∧ w.cell? a2 = some v2 ∧ w.cell? a3 = some v3 ∧ w.cell? a4 = some v4 ∧ w.cell? a5 = some v5 ∧ Kept W w ((a0, v0) :: (a1, v1) :: (a2, v2) :: (a3, v3) :: (a4, v4) :: (a5, v5) :: l)) (hb : Below w.heap.size w w1) :
    w1.cell? a0 = some v0 ∧ w1.cell? a1 = some v1 ∧ w1.cell? a2 = some v2 ∧ w1.cell? a3 = some v3 ∧ w1.cell? a4 = some v4 ∧ w1.cell? a5 = some v5 ∧ Kept W w1 ((a0, v0) :: (a1, v1) :: (a2, v2) :: (a3, v3) :: (a4, v4) :: (a5, v5) :: l) :=
  have k := h.2.2.2.2.2.2.step hb
  ⟨k.get 0 rfl, k.get 1 rfl, k.get 2 rfl, k.get 3 rfl, k.get 4 rfl, k.get 5 rfl, k⟩
theorem s8_start {W w : World} {a0 a1 a2 a3 a4 a5 a6 a7 : Addr} {v0 v1 v2 v3 v4 v5 v6 v7 : Value} {l : List (Addr × Value)} (h : Kept W w ((a0, v0) :: (a1, v1) :: (a2, v2) :: (a3, v3) :: (a4, v4) :: (a5, v5) :: (a6, v6) :: (a7, v7) :: l)) :
    w.drew.cell? a0 = some v0 ∧ w.drew.cell? a1 = some v1 ∧ w.drew.cell? a2 = some v2 ∧ w.drew.cell? a3 = some v3 ∧ w.drew.cell? a4 = some v4 ∧ w.drew.cell? a5 = some v5 ∧ w.drew.cell? a6 = some v6 ∧ w.drew.cell? a7 = some v7 ∧ Kept W w.drew ((a0, v0) :: (a1, v1) :: (a2, v2) :: (a3, v3) :: (a4, v4) :: (a5, v5) :: (a6, v6) :: (a7, v7) :: l) :=
  ⟨h.drew.get 0 rfl, h.drew.get 1 rfl, h.drew.get 2 rfl, h.drew.get 3 rfl, h.drew.get 4 rfl, h.drew.get 5 rfl, h.drew.get 6 rfl, h.drew.get 7 rfl, h.drew⟩
theorem s8_keep {W w w1 : World} {a0 a1 a2 a3 a4 a5 a6 a7 : Addr} {v0 v1 v2 v3 v4 v5 v6 v7 : Value} {l : List (Addr × Value)} (h : w.cell? a0 = some v0 ∧ w.cell? a1 = some v1 ∧ w.cell? a2 = some v2 ∧ w.cell? a3 = some v3 ∧ w.cell? a4 = some v4 ∧ w.cell? a5 = some v5 ∧ w.cell? a6 = some v6 ∧ w.cell? a7 = some v7 ∧ Kept W w ((a0, v0) :: (a1, v1) :: (a2, v2) :: (a3, v3) :: (a4, v4) :: (a5, v5) :: (a6, v6) :: (a7, v7) :: l)) (hb : Below w.heap.size w w1) :
    w1.cell? a0 = some v0 ∧ w1.cell? a1 = some v1 ∧ w1.cell? a2 = some v2 ∧ w1.cell? a3 = some v3 ∧ w1.cell? a4 = some v4 ∧ w1.cell? a5 = some v5 ∧ w1.cell? a6 = some v6 ∧ w1.cell? a7 = some v7 ∧ Kept W w1 ((a0, v0) :: (a1, v1) :: (a2, v2) :: (a3, v3) :: (a4, v4) :: (a5, v5) :: (a6, v6) :: (a7, v7) :: l) :=
  have k := h.2.2.2.2.2.2.2.2.step hb
  ⟨k.get 0 rfl, k.get 1 rfl, k.get 2 rfl, k.get 3 rfl, k.get 4 rfl, k.get 5 rfl, k.get 6 rfl, k.get 7 rfl, k⟩

theorem s4_re {W w : World} {B : Nat} {v0 v1 v2 v3 : Value} {o o' : Obj}
    (h : (w.alloc o).cell? ⟨B + 1, 0, none⟩ = some v0 ∧ (w.alloc o).cell? ⟨B + 1, 1, none⟩ = some v1 ∧ (w.alloc o).cell? ⟨B, 0, none⟩ = some v2 ∧ (w.alloc o).cell? ⟨B, 1, none⟩ = some v3 ∧ Kept W (w.alloc o) [(⟨B + 1, 0, none⟩, v0), (⟨B + 1, 1, none⟩, v1), (⟨B, 0, none⟩, v2), (⟨B, 1, none⟩, v3)])
    (hz : B + 1 < w.heap.size) (hW : W.heap.size ≤ w.heap.size) :
    (w.alloc o').cell? ⟨B + 1, 0, none⟩ = some v0 ∧ (w.alloc o').cell? ⟨B + 1, 1, none⟩ = some v1 ∧ (w.alloc o').cell? ⟨B, 0, none⟩ = some v2 ∧ (w.alloc o').cell? ⟨B, 1, none⟩ = some v3 ∧ Kept W (w.alloc o') [(⟨B + 1, 0, none⟩, v0), (⟨B + 1, 1, none⟩, v1), (⟨B, 0, none⟩, v2), (⟨B, 1, none⟩, v3)] := by
  have hb := (Below.refl w.heap.size w).alloc (Nat.le_refl _) o
  have hb' := (Below.refl w.heap.size w).alloc (Nat.le_refl _) o'
  have K := h.2.2.2.2
  have K' : Kept W w [(⟨B + 1, 0, none⟩, v0), (⟨B + 1, 1, none⟩, v1), (⟨B, 0, none⟩, v2), (⟨B, 1, none⟩, v3)] := by
    refine ⟨⟨K.1.os, K.1.tape, K.1.output, hW, fun j hj => ?_⟩, fun p hp => ?_⟩
    · rw [← K.1.block j hj, hb.block j (by omega)]
    · have hk := K.2 p hp
      have hl : p.1.block < w.heap.size := by
        simp only [List.mem_cons, List.not_mem_nil, or_false] at hp
        rcases hp with rfl | rfl | rfl | rfl <;> simp only <;> omega
      exact ⟨hl, by rw [← hb.cell hl]; exact hk.2.1, by rw [← hb.frozen hl]; exact hk.2.2⟩
  have k := K'.step hb'
  exact ⟨k.get 0 rfl, k.get 1 rfl, k.get 2 rfl, k.get 3 rfl, k⟩

/-- A store into a kept cell. -/
theorem Kept.set {W w : World} {a : Addr} {v : Value} {p q : List (Addr × Value)} (h : Kept W w (p ++ (a, v) :: q)) (u : Value) (hW : W.heap.size ≤ a.block) (hne : ∀ c ∈ p ++ q, c.1 ≠ a) : Kept W (w.setCell a u) (p ++ (a, u) :: q) := by
  have ha := h.2 (a, v) (by simp)
  refine ⟨h.1.setCell hW u, fun c hc => ?_⟩
  simp only [List.mem_append, List.mem_cons] at hc
  have hsz : (w.setCell a u).heap.size = w.heap.size := by simp
  have other : ∀ c ∈ p ++ q, c.1.block < (w.setCell a u).heap.size ∧ (w.setCell a u).cell? c.1 = some c.2 ∧ (w.setCell a u).frozen? c.1 = false := by
    intro c hc
    have hk := h.2 c (by simp only [List.mem_append, List.mem_cons] at hc ⊢; rcases hc with hc | hc <;> simp [hc])
    refine ⟨by rw [hsz]; exact hk.1, ?_, ?_⟩
    · rw [World.cell?_setCell_other (w := w) (a := a) (b := c.1) (v := u) (fun e => hne c hc e.symm)]; exact hk.2.1
    · rw [World.frozen?_setCell]; exact hk.2.2
  rcases hc with hc | rfl | hc
  · exact other c (by simp [hc])
  · refine ⟨by rw [hsz]; exact ha.1, ?_, by rw [World.frozen?_setCell]; exact ha.2.2⟩
    exact World.cell?_setCell_same (w := w) (a := a) (v := u) ha.2.1
  · exact other c (by simp [hc])

/-- Two stores into the two cells of a block that lies behind all others kept. -/
theorem Kept.set2 {W w : World} {g : Nat} {v0 v1 : Value} {l : List (Addr × Value)} (h : Kept W w ((⟨g, 0, none⟩, v0) :: (⟨g, 1, none⟩, v1) :: l)) (x y : Value) (hW : W.heap.size ≤ g) (hl : ∀ c ∈ l, c.1.block < g) :
    Kept W ((w.setCell ⟨g, 0, none⟩ x).setCell ⟨g, 1, none⟩ y) ((⟨g, 0, none⟩, x) :: (⟨g, 1, none⟩, y) :: l) := by
  have h1 := Kept.set (p := []) (q := (⟨g, 1, none⟩, v1) :: l) h x hW (by
    intro c hc
    simp only [List.nil_append, List.mem_cons] at hc
    rcases hc with rfl | hc
    · simp
    · intro e; have := hl c hc; rw [e] at this; simp at this)
  refine Kept.set (p := [(⟨g, 0, none⟩, x)]) (q := l) h1 y hW ?_
  intro c hc
  simp only [List.cons_append, List.nil_append, List.mem_cons] at hc
  rcases hc with rfl | hc
  · simp
  · intro e; have := hl c hc; rw [e] at this; simp at this

theorem Kept.cons {W w : World} {l : List (Addr × Value)} (h : Kept W w l) {a : Addr} {v : Value} (h1 : a.block < w.heap.size) (h2 : w.cell? a = some v) (h3 : w.frozen? a = false) : Kept W w ((a, v) :: l) :=
  ⟨h.1, fun p hp => by
    rcases List.mem_cons.1 hp with rfl | hp
    · exact ⟨h1, h2, h3⟩
    · exact h.2 p hp⟩

theorem cell_alloc_some {w : World} {a : Addr} {v : Value} (o : Obj) (h : w.cell? a = some v) : (w.alloc o).cell? a = some v := by
  rw [((Below.refl w.heap.size w).alloc (Nat.le_refl _) o).cell (World.block_lt_of_cell? w _ h)]; exact h
theorem cell_set2_some {w : World} {a : Addr} {v : Value} {g : Nat} (x y : Value) (h : w.cell? a = some v) (hne : a.block ≠ g) : ((w.setCell ⟨g, 0, none⟩ x).setCell ⟨g, 1, none⟩ y).cell? a = some v := by
  rw [World.cell?_setCell_other (w := w.setCell ⟨g, 0, none⟩ x) (a := ⟨g, 1, none⟩) (b := a) (v := y) (fun e => hne (by rw [← e])), World.cell?_setCell_other (w := w) (a := ⟨g, 0, none⟩) (b := a) (v := x) (fun e => hne (by rw [← e]))]
  exact h
/-- The loaded cells of two boxes behind an alloc, behind the store into the block that was made. -/
theorem c4_alloc {w : World} {a0 a1 a2 a3 : Addr} {v0 v1 v2 v3 : Value} {o : Obj} (h : w.cell? a0 = some v0 ∧ w.cell? a1 = some v1 ∧ w.cell? a2 = some v2 ∧ w.cell? a3 = some v3) :
    (w.alloc o).cell? a0 = some v0 ∧ (w.alloc o).cell? a1 = some v1 ∧ (w.alloc o).cell? a2 = some v2 ∧ (w.alloc o).cell? a3 = some v3 :=
  ⟨cell_alloc_some o h.1, cell_alloc_some o h.2.1, cell_alloc_some o h.2.2.1, cell_alloc_some o h.2.2.2⟩
theorem c4_set2 {w : World} {a0 a1 a2 a3 : Addr} {v0 v1 v2 v3 : Value} {g : Nat} {x y : Value} (h : w.cell? a0 = some v0 ∧ w.cell? a1 = some v1 ∧ w.cell? a2 = some v2 ∧ w.cell? a3 = some v3) (h0 : a0.block ≠ g) (h1 : a1.block ≠ g) (h2 : a2.block ≠ g) (h3 : a3.block ≠ g) :
    ((w.setCell ⟨g, 0, none⟩ x).setCell ⟨g, 1, none⟩ y).cell? a0 = some v0 ∧ ((w.setCell ⟨g, 0, none⟩ x).setCell ⟨g, 1, none⟩ y).cell? a1 = some v1 ∧ ((w.setCell ⟨g, 0, none⟩ x).setCell ⟨g, 1, none⟩ y).cell? a2 = some v2 ∧ ((w.setCell ⟨g, 0, none⟩ x).setCell ⟨g, 1, none⟩ y).cell? a3 = some v3 :=
  ⟨cell_set2_some x y h.1 h0, cell_set2_some x y h.2.1 h1, cell_set2_some x y h.2.2.1 h2, cell_set2_some x y h.2.2.2 h3⟩

theorem Kept.alloc4 {W w : World} {l : List (Addr × Value)} (h : Kept W w l) (x y u v : Value) (t : TypeId) (B : Nat) (hB : w.heap.size = B) :
    Kept W (w.alloc (.cells #[x, y, u, v] t)) ((⟨B, 0, none⟩, x) :: (⟨B, 1, none⟩, y) :: (⟨B, 2, none⟩, u) :: (⟨B, 3, none⟩, v) :: l) := by
  subst hB
  have h1 := h.step ((Below.refl w.heap.size w).alloc (Nat.le_refl _) (.cells #[x, y, u, v] t))
  refine ⟨h1.1, fun p hp => ?_⟩
  simp only [List.mem_cons] at hp
  rcases hp with rfl | rfl | rfl | rfl | hp
  · exact ⟨by simp, by go_simp, by go_simp⟩
  · exact ⟨by simp, by go_simp, by go_simp⟩
  · exact ⟨by simp, by go_simp, by go_simp⟩
  · exact ⟨by simp, by go_simp, by go_simp⟩
  · exact h1.2 p hp
end Go.Proofs.YtndebdimjlfepaaDoor

/-! ### Held8 -/
namespace Go.Proofs.YtndebdimjlfepaaDoor
open Go.RowKit

theorem cell_set4_some {w : World} {a : Addr} {v9 : Value} {g : Nat} (x y u v : Value) (h : w.cell? a = some v9) (hne : a.block ≠ g) : ((((w.setCell ⟨g, 0, none⟩ x).setCell ⟨g, 1, none⟩ y).setCell ⟨g, 2, none⟩ u).setCell ⟨g, 3, none⟩ v).cell? a = some v9 := by
  rw [World.cell?_setCell_other (w := (((w.setCell ⟨g, 0, none⟩ x).setCell ⟨g, 1, none⟩ y).setCell ⟨g, 2, none⟩ u)) (a := ⟨g, 3, none⟩) (b := a) (v := v) (fun e => hne (by rw [← e])), World.cell?_setCell_other (w := ((w.setCell ⟨g, 0, none⟩ x).setCell ⟨g, 1, none⟩ y)) (a := ⟨g, 2, none⟩) (b := a) (v := u) (fun e => hne (by rw [← e])), World.cell?_setCell_other (w := (w.setCell ⟨g, 0, none⟩ x)) (a := ⟨g, 1, none⟩) (b := a) (v := y) (fun e => hne (by rw [← e])), World.cell?_setCell_other (w := w) (a := ⟨g, 0, none⟩) (b := a) (v := x) (fun e => hne (by rw [← e]))]
  exact h
theorem c8_set4 {w : World} {a0 a1 a2 a3 a4 a5 a6 a7 : Addr} {v0 v1 v2 v3 v4 v5 v6 v7 x y u v : Value} {g : Nat} (h : w.cell? a0 = some v0 ∧ w.cell? a1 = some v1 ∧ w.cell? a2 = some v2 ∧ w.cell? a3 = some v3 ∧ w.cell? a4 = some v4 ∧ w.cell? a5 = some v5 ∧ w.cell? a6 = some v6 ∧ w.cell? a7 = some v7) (h0 : a0.block ≠ g) (h1 : a1.block ≠ g) (h2 : a2.block ≠ g) (h3 : a3.block ≠ g) (h4 : a4.block ≠ g) (h5 : a5.block ≠ g) (h6 : a6.block ≠ g) (h7 : a7.block ≠ g) :
    ((((w.setCell ⟨g, 0, none⟩ x).setCell ⟨g, 1, none⟩ y).setCell ⟨g, 2, none⟩ u).setCell ⟨g, 3, none⟩ v).cell? a0 = some v0 ∧ ((((w.setCell ⟨g, 0, none⟩ x).setCell ⟨g, 1, none⟩ y).setCell ⟨g, 2, none⟩ u).setCell ⟨g, 3, none⟩ v).cell? a1 = some v1 ∧ ((((w.setCell ⟨g, 0, none⟩ x).setCell ⟨g, 1, none⟩ y).setCell ⟨g, 2, none⟩ u).setCell ⟨g, 3, none⟩ v).cell? a2 = some v2 ∧ ((((w.setCell ⟨g, 0, none⟩ x).setCell ⟨g, 1, none⟩ y).setCell ⟨g, 2, none⟩ u).setCell ⟨g, 3, none⟩ v).cell? a3 = some v3 ∧ ((((w.setCell ⟨g, 0, none⟩ x).setCell ⟨g, 1, none⟩ y).setCell ⟨g, 2, none⟩ u).setCell ⟨g, 3, none⟩ v).cell? a4 = some v4 ∧ ((((w.setCell ⟨g, 0, none⟩ x).setCell ⟨g, 1, none⟩ y).setCell ⟨g, 2, none⟩ u).setCell ⟨g, 3, none⟩ v).cell? a5 = some v5 ∧ ((((w.setCell ⟨g, 0, none⟩ x).setCell ⟨g, 1, none⟩ y).setCell ⟨g, 2, none⟩ u).setCell ⟨g, 3, none⟩ v).cell? a6 = some v6 ∧ ((((w.setCell ⟨g, 0, none⟩ x).setCell ⟨g, 1, none⟩ y).setCell ⟨g, 2, none⟩ u).setCell ⟨g, 3, none⟩ v).cell? a7 = some v7 :=
  ⟨cell_set4_some x y u v h.1 h0, cell_set4_some x y u v h.2.1 h1, cell_set4_some x y u v h.2.2.1 h2, cell_set4_some x y u v h.2.2.2.1 h3, cell_set4_some x y u v h.2.2.2.2.1 h4, cell_set4_some x y u v h.2.2.2.2.2.1 h5, cell_set4_some x y u v h.2.2.2.2.2.2.1 h6, cell_set4_some x y u v h.2.2.2.2.2.2.2 h7⟩
theorem c8_alloc {w : World} {a0 a1 a2 a3 a4 a5 a6 a7 : Addr} {v0 v1 v2 v3 v4 v5 v6 v7 : Value} {o : Obj} (h : w.cell? a0 = some v0 ∧ w.cell? a1 = some v1 ∧ w.cell? a2 = some v2 ∧ w.cell? a3 = some v3 ∧ w.cell? a4 = some v4 ∧ w.cell? a5 = some v5 ∧ w.cell? a6 = some v6 ∧ w.cell? a7 = some v7) :
    (w.alloc o).cell? a0 = some v0 ∧ (w.alloc o).cell? a1 = some v1 ∧ (w.alloc o).cell? a2 = some v2 ∧ (w.alloc o).cell? a3 = some v3 ∧ (w.alloc o).cell? a4 = some v4 ∧ (w.alloc o).cell? a5 = some v5 ∧ (w.alloc o).cell? a6 = some v6 ∧ (w.alloc o).cell? a7 = some v7 :=
  ⟨cell_alloc_some o h.1, cell_alloc_some o h.2.1, cell_alloc_some o h.2.2.1, cell_alloc_some o h.2.2.2.1, cell_alloc_some o h.2.2.2.2.1, cell_alloc_some o h.2.2.2.2.2.1, cell_alloc_some o h.2.2.2.2.2.2.1, cell_alloc_some o h.2.2.2.2.2.2.2⟩

theorem c8_adrew {w : World} {a0 a1 a2 a3 a4 a5 a6 a7 : Addr} {v0 v1 v2 v3 v4 v5 v6 v7 : Value} {o : Obj} (h : w.cell? a0 = some v0 ∧ w.cell? a1 = some v1 ∧ w.cell? a2 = some v2 ∧ w.cell? a3 = some v3 ∧ w.cell? a4 = some v4 ∧ w.cell? a5 = some v5 ∧ w.cell? a6 = some v6 ∧ w.cell? a7 = some v7) :
    (w.alloc o).drew.cell? a0 = some v0 ∧ (w.alloc o).drew.cell? a1 = some v1 ∧ (w.alloc o).drew.cell? a2 = some v2 ∧ (w.alloc o).drew.cell? a3 = some v3 ∧ (w.alloc o).drew.cell? a4 = some v4 ∧ (w.alloc o).drew.cell? a5 = some v5 ∧ (w.alloc o).drew.cell? a6 = some v6 ∧ (w.alloc o).drew.cell? a7 = some v7 := c8_alloc h

/-- Four stores into the four cells of a block that lies behind all others kept. -/
theorem Kept.set4 {W w : World} {g : Nat} {v0 v1 v2 v3 : Value} {l : List (Addr × Value)} (h : Kept W w ((⟨g, 0, none⟩, v0) :: (⟨g, 1, none⟩, v1) :: (⟨g, 2, none⟩, v2) :: (⟨g, 3, none⟩, v3) :: l)) (x y u v : Value) (hW : W.heap.size ≤ g) (hl : ∀ c ∈ l, c.1.block < g) :
    Kept W ((((w.setCell ⟨g, 0, none⟩ x).setCell ⟨g, 1, none⟩ y).setCell ⟨g, 2, none⟩ u).setCell ⟨g, 3, none⟩ v) ((⟨g, 0, none⟩, x) :: (⟨g, 1, none⟩, y) :: (⟨g, 2, none⟩, u) :: (⟨g, 3, none⟩, v) :: l) := by
  have hl' : ∀ j, ∀ c ∈ l, c.1 ≠ ⟨g, j, none⟩ := fun j c hc e => by have := hl c hc; rw [e] at this; simp at this
  have h1 := Kept.set (p := []) h x hW (by
    intro c hc
    simp only [List.nil_append, List.mem_cons] at hc
    rcases hc with rfl | rfl | rfl | hc
    · simp
    · simp
    · simp
    · exact hl' 0 c hc)
  have h2 := Kept.set (p := [(⟨g, 0, none⟩, x)]) h1 y hW (by
    intro c hc
    simp only [List.cons_append, List.nil_append, List.mem_cons] at hc
    rcases hc with rfl | rfl | rfl | hc
    · simp
    · simp
    · simp
    · exact hl' 1 c hc)
  have h3 := Kept.set (p := [(⟨g, 0, none⟩, x), (⟨g, 1, none⟩, y)]) h2 u hW (by
    intro c hc
    simp only [List.cons_append, List.nil_append, List.mem_cons] at hc
    rcases hc with rfl | rfl | rfl | hc
    · simp
    · simp
    · simp
    · exact hl' 2 c hc)
  exact Kept.set (p := [(⟨g, 0, none⟩, x), (⟨g, 1, none⟩, y), (⟨g, 2, none⟩, u)]) h3 v hW (by
    intro c hc
    simp only [List.cons_append, List.nil_append, List.mem_cons] at hc
    rcases hc with rfl | rfl | rfl | hc
    · simp
    · simp
    · simp
    · exact hl' 3 c hc)
end Go.Proofs.YtndebdimjlfepaaDoor

/-! ### Held20 -/
namespace Go.Proofs.YtndebdimjlfepaaDoor
open Go.RowKit

/-- In a region that draws its order: an operation whose guard says no is taken first, and leaves nothing. -/
theorem held_skip {P : Program} {ops : Array Oper} {Q : Exit → Act → World → Prop} {md : Region.Mode} {S : World → Prop} {i : Nat} {oi : Oper} {fuel : Nat} {listed : Array Bool} {a : Act} {w : World} (hi : ops[i]? = some oi)
    (hs : Region.noSelect ops = true) (hf : Region.free md ops listed i = true) (hr : (Region.ready md ops listed).contains i = true)
    (hQ : ∀ c a w, Q (.panic c) (a.put oi.dst undef) w → Q (.panic c) a w) (hw : Region.wanted oi (yielded ops a.tmps) = false) (hS : S w)
    (h : wpAnyH P md ops Q S fuel (listed.setIfInBounds i true) (a.put oi.dst undef) w) : wpAnyH P md ops Q S (fuel + 1) listed a w :=
  wpAnyH_take hi hs hf hr hQ (Or.inr ⟨hw, rfl⟩) hS h

/-- A part of what is kept. -/
theorem Kept.sub {W w : World} {l l' : List (Addr × Value)} (h : Kept W w l) (hs : ∀ p ∈ l', p ∈ l) : Kept W w l' := ⟨h.1, fun p hp => h.2 p (hs p hp)⟩

theorem s12_start {W w : World} {a0 a1 a2 a3 a4 a5 a6 a7 a8 a9 a10 a11 : Addr} {v0 v1 v2 v3 v4 v5 v6 v7 v8 v9 v10 v11 : Value} {l : List (Addr × Value)} (h : Kept W w ((a0, v0) :: (a1, v1) :: (a2, v2) :: (a3, v3) :: (a4, v4) :: (a5, v5) :: (a6, v6) :: (a7, v7) :: (a8, v8) :: (a9, v9) :: (a10, v10) :: (a11, v11) :: l)) :
    w.drew.cell? a0 = some v0 ∧ w.drew.cell? a1 = some v1 ∧ w.drew.cell? a2 = some v2 ∧ w.drew.cell? a3 = some v3 ∧ w.drew.cell? a4 = some v4 ∧ w.drew.cell? a5 = some v5 ∧ w.drew.cell? a6 = some v6 ∧ w.drew.cell? a7 = some v7 ∧ w.drew.cell? a8 = some v8 ∧ w.drew.cell? a9 = some v9 ∧ w.drew.cell? a10 = some v10 ∧ w.drew.cell? a11 = some v11 ∧ Kept W w.drew ((a0, v0) :: (a1, v1) :: (a2, v2) :: (a3, v3) :: (a4, v4) :: (a5, v5) :: (a6, v6) :: (a7, v7) :: (a8, v8) :: (a9, v9) :: (a10, v10) :: (a11, v11) :: l) :=
  ⟨h.drew.get 0 rfl, h.drew.get 1 rfl, h.drew.get 2 rfl, h.drew.get 3 rfl, h.drew.get 4 rfl, h.drew.get 5 rfl, h.drew.get 6 rfl, h.drew.get 7 rfl, h.drew.get 8 rfl, h.drew.get 9 rfl, h.drew.get 10 rfl, h.drew.get 11 rfl, h.drew⟩
theorem s12_keep {W w w1 : World} {a0 a1 a2 a3 a4 a5 a6 a7 a8 a9 a10 a11 : Addr} {v0 v1 v2 v3 v4 v5 v6 v7 v8 v9 v10 v11 : Value} {l : List (Addr × Value)} (h : w.cell? a0 = some v0 ∧ w.cell? a1 = some v1 ∧ w.cell? a2 = some v2 ∧ w.cell? a3 = some v3 ∧ w.cell? a4 = some v4 ∧ w.cell? a5 = some v5 ∧ w.cell? a6 = some v6 ∧ w.cell? a7 = some v7 ∧ w.cell? a8 = some v8 ∧ w.cell? a9 = some v9 ∧ w.cell? a10 = some v10 ∧ w.cell? a11 = some v11 ∧ Kept W w ((a0, v0) :: (a1, v1) :: (a2, v2) :: (a3, v3) :: (a4, v4) :: (a5, v5) :: (a6, v6) :: (a7, v7) :: (a8, v8) :: (a9, v9) :: (a10, v10) :: (a11, v11) :: l)) (hb : Below w.heap.size w w1) :
    w1.cell? a0 = some v0 ∧ w1.cell? a1 = some v1 ∧ w1.cell? a2 = some v2 ∧ w1.cell? a3 = some v3 ∧ w1.cell? a4 = some v4 ∧ w1.cell? a5 = some v5 ∧ w1.cell? a6 = some v6 ∧ w1.cell? a7 = some v7 ∧ w1.cell? a8 = some v8 ∧ w1.cell? a9 = some v9 ∧ w1.cell? a10 = some v10 ∧ w1.cell? a11 = some v11 ∧ Kept W w1 ((a0, v0) :: (a1, v1) :: (a2, v2) :: (a3, v3) :: (a4, v4) :: (a5, v5) :: (a6, v6) :: (a7, v7) :: (a8, v8) :: (a9, v9) :: (a10, v10) :: (a11, v11) :: l) :=
  have k := h.2.2.2.2.2.2.2.2.2.2.2.2.step hb
  ⟨k.get 0 rfl, k.get 1 rfl, k.get 2 rfl, k.get 3 rfl, k.get 4 rfl, k.get 5 rfl, k.get 6 rfl, k.get 7 rfl, k.get 8 rfl, k.get 9 rfl, k.get 10 rfl, k.get 11 rfl, k⟩
theorem s14_start {W w : World} {a0 a1 a2 a3 a4 a5 a6 a7 a8 a9 a10 a11 a12 a13 : Addr} {v0 v1 v2 v3 v4 v5 v6 v7 v8 v9 v10 v11 v12 v13 : Value} {l : List (Addr × Value)} (h : Kept W w ((a0, v0) :: (a1, v1) :: (a2, v2) :: (a3, v3) :: (a4, v4) :: (a5, v5) :: (a6, v6) :: (a7, v7) :: (a8, v8) :: (a9, v9) :: (a10, v10) :: (a11, v11) :: (a12, v12) :: (a13, v13) :: l)) :
    w.drew.cell? a0 = some v0 ∧ w.drew.cell? a1 = some v1 ∧ w.drew.cell? a2 = some v2 ∧ w.drew.cell? a3 = some v3 ∧ w.drew.cell? a4 = some v4 ∧ w.drew.cell? a5 = some v5 ∧ w.drew.cell? a6 = some v6 ∧ w.drew.cell? a7 = some v7 ∧ w.drew.cell? a8 = some v8 ∧ w.drew.cell? a9 = some v9 ∧ w.drew.cell? a10 = some v10 ∧ w.drew.cell? a11 = some v11 ∧ w.drew.cell? a12 = some v12 ∧ w.drew.cell? a13 = some v13 ∧ Kept W w.drew ((a0, v0) :: (a1, v1) :: (a2, v2) :: (a3, v3) :: (a4, v4) :: (a5, v5) :: (a6, v6) :: (a7, v7) :: (a8, v8) :: (a9, v9) :: (a10, v10) :: (a11, v11) :: (a12, v12) :: (a13, v13) :: l) :=
  ⟨h.drew.get 0 rfl, h.drew.get 1 rfl, h.drew.get 2 rfl, h.drew.get 3 rfl, h.drew.get 4 rfl, h.drew.get 5 rfl, h.drew.get 6 rfl, h.drew.get 7 rfl, h.drew.get 8 rfl, h.drew.get 9 rfl, h.drew.get 10 rfl, h.drew.get 11 rfl, h.drew.get 12 rfl, h.drew.get 13 rfl, h.drew⟩
theorem s14_keep {W w w1 : World} {a0 a1 a2 a3 a4 a5 a6 a7 a8 a9 a10 a11 a12 a13 : Addr} {v0 v1 v2 v3 v4 v5 v6 v7 v8 v9 v10 v11 v12 v13 : Value} {l : List (Addr × Value)} (h : w.cell? a0 = some v0 ∧ w.cell? a1 = some v1 ∧ w.cell? a2 = some v2 ∧ w.cell? a3 = some v3 ∧ w.cell? a4 = some v4 ∧ w.cell? a5 = some v5 ∧ w.cell? a6 = some v6 ∧ w.cell? a7 = some v7 ∧ w.cell? a8 = some v8 ∧ w.cell? a9 = some v9 ∧ w.cell? a10 = some v10 ∧ w.cell? a11 = some v11 ∧ w.cell? a12 = some v12 ∧ w.cell? a13 = some v13 ∧ Kept W w ((a0, v0) :: (a1, v1) :: (a2, v2) :: (a3, v3) :: (a4, v4) :: (a5, v5) :: (a6, v6) :: (a7, v7) :: (a8, v8) :: (a9, v9) :: (a10, v10) :: (a11, v11) :: (a12, v12) :: (a13, v13) :: l)) (hb : Below w.heap.size w w1) :
    w1.cell? a0 = some v0 ∧ w1.cell? a1 = some v1 ∧ w1.cell? a2 = some v2 ∧ w1.cell? a3 = some v3 ∧ w1.cell? a4 = some v4 ∧ w1.cell? a5 = some v5 ∧ w1.cell? a6 = some v6 ∧ w1.cell? a7 = some v7 ∧ w1.cell? a8 = some v8 ∧ w1.cell? a9 = some v9 ∧ w1.cell? a10 = some v10 ∧ w1.cell? a11 = some v11 ∧ w1.cell? a12 = some v12 ∧ w1.cell? a13 = some v13 ∧ Kept W w1 ((a0, v0) :: (a1, v1) :: (a2, v2) :: (a3, v3) :: (a4, v4) :: (a5, v5) :: (a6, v6) :: (a7, v7) :: (a8, v8) :: (a9, v9) :: (a10, v10) :: (a11, v11) :: (a12, v12) :: (a13, v13) :: l) :=
  have k := h.2.2.2.2.2.2.2.2.2.2.2.2.2.2.step hb
  ⟨k.get 0 rfl, k.get 1 rfl, k.get 2 rfl, k.get 3 rfl, k.get 4 rfl, k.get 5 rfl, k.get 6 rfl, k.get 7 rfl, k.get 8 rfl, k.get 9 rfl, k.get 10 rfl, k.get 11 rfl, k.get 12 rfl, k.get 13 rfl, k⟩
theorem s20_start {W w : World} {a0 a1 a2 a3 a4 a5 a6 a7 a8 a9 a10 a11 a12 a13 a14 a15 a16 a17 a18 a19 : Addr} {v0 v1 v2 v3 v4 v5 v6 v7 v8 v9 v10 v11 v12 v13 v14 v15 v16 v17 v18 v19 : Value} {l : List (Addr × Value)} (h : Kept W w ((a0, v0) :: (a1, v1) :: (a2, v2) :: (a3, v3) :: (a4, v4) :: (a5, v5) :: (a6, v6) :: (a7, v7) :: (a8, v8) :: (a9, v9) :: (a10, v10) :: (a11, v11) :: (a12, v12) :: (a13, v13) :: (a14, v14) :: (a15, v15) :: (a16, v16) :: (a17, v17) :: (a18, v18) :: (a19, v19) :: l)) :
    w.drew.cell? a0 = some v0 ∧ w.drew.cell? a1 = some v1 ∧ w.drew.cell? a2 = some v2 ∧ w.drew.cell? a3 = some v3 ∧ w.drew.cell? a4 = some v4 ∧ w.drew.cell? a5 = some v5 ∧ w.drew.cell? a6 = some v6 ∧ w.drew.cell? a7 = some v7 ∧ w.drew.cell? a8 = some v8 ∧ w.drew.cell? a9 = some v9 ∧ w.drew.cell? a10 = some v10 ∧ w.drew.cell? a11 = some v11 ∧ w.drew.cell? a12 = some v12 ∧ w.drew.cell? a13 = some v13 ∧ w.drew.cell? a14 = some v14 ∧ w.drew.cell? a15 = some v15 ∧ w.drew.cell? a16 = some v16 ∧ w.drew.cell? a17 = some v17 ∧ w.drew.cell? a18 = some v18 ∧ w.drew.cell? a19 = some v19 ∧ Kept W w.drew ((a0, v0) :: (a1, v1) :: (a2, v2) :: (a3, v3) :: (a4, v4) :: (a5, v5) :: (a6, v6) :: (a7, v7) :: (a8, v8) :: (a9, v9) :: (a10, v10) :: (a11, v11) :: (a12, v12) :: (a13, v13) :: (a14, v14) :: (a15, v15) :: (a16, v16) :: (a17, v17) :: (a18, v18) :: (a19, v19) :: l) :=
  ⟨h.drew.get 0 rfl, h.drew.get 1 rfl, h.drew.get 2 rfl, h.drew.get 3 rfl, h.drew.get 4 rfl, h.drew.get 5 rfl, h.drew.get 6 rfl, h.drew.get 7 rfl, h.drew.get 8 rfl, h.drew.get 9 rfl, h.drew.get 10 rfl, h.drew.get 11 rfl, h.drew.get 12 rfl, h.drew.get 13 rfl, h.drew.get 14 rfl, h.drew.get 15 rfl, h.drew.get 16 rfl, h.drew.get 17 rfl, h.drew.get 18 rfl, h.drew.get 19 rfl, h.drew⟩
theorem s20_keep {W w w1 : World} {a0 a1 a2 a3 a4 a5 a6 a7 a8 a9 a10 a11 a12 a13 a14 a15 a16 a17 a18 a19 : Addr} {v0 v1 v2 v3 v4 v5 v6 v7 v8 v9 v10 v11 v12 v13 v14 v15 v16 v17 v18 v19 : Value} {l : List (Addr × Value)} (h : w.cell? a0 = some v0 ∧ w.cell? a1 = some v1 ∧ w.cell? a2 = some v2 ∧ w.cell? a3 = some v3 ∧ w.cell? a4 = some v4 ∧ w.cell? a5 = some v5 ∧ w.cell? a6 = some v6 ∧ w.cell? a7 = some v7 ∧ w.cell? a8 = some v8 ∧ w.cell? a9 = some v9 ∧ w.cell? a10 = some v10 ∧ w.cell? a11 = some v11 ∧ w.cell? a12 = some v12 ∧ w.cell? a13 = some v13 ∧ w.cell? a14 = some v14 ∧ w.cell? a15 = some v15 ∧ w.cell? a16 = some v16 ∧ w.cell? a17 = some v17 ∧ w.cell? a18 = some v18 ∧ w.cell? a19 = some v19 ∧ Kept W w ((a0, v0) :: (a1, v1) :: (a2, v2) :: (a3, v3) :: (a4, v4) :: (a5, v5) :: (a6, v6) :: (a7, v7) :: (a8, v8) :: (a9, v9) :: (a10, v10) :: (a11, v11) :: (a12, v12) :: (a13, v13) :: (a14, v14) :: (a15, v15) :: (a16, v16) :: (a17, v17) :: (a18, v18) :: (a19, v19) :: l)) (hb : Below w.heap.size w w1) :
    w1.cell? a0 = some v0 ∧ w1.cell? a1 = some v1 ∧ w1.cell? a2 = some v2 ∧ w1.cell? a3 = some v3 ∧ w1.cell? a4 = some v4 ∧ w1.cell? a5 = some v5 ∧ w1.cell? a6 = some v6 ∧ w1.cell? a7 = some v7 ∧ w1.cell? a8 = some v8 ∧ w1.cell? a9 = some v9 ∧ w1.cell? a10 = some v10 ∧ w1.cell? a11 = some v11 ∧ w1.cell? a12 = some v12 ∧ w1.cell? a13 = some v13 ∧ w1.cell? a14 = some v14 ∧ w1.cell? a15 = some v15 ∧ w1.cell? a16 = some v16 ∧ w1.cell? a17 = some v17 ∧ w1.cell? a18 = some v18 ∧ w1.cell? a19 = some v19 ∧ Kept W w1 ((a0, v0) :: (a1, v1) :: (a2, v2) :: (a3, v3) :: (a4, v4) :: (a5, v5) :: (a6, v6) :: (a7, v7) :: (a8, v8) :: (a9, v9) :: (a10, v10) :: (a11, v11) :: (a12, v12) :: (a13, v13) :: (a14, v14) :: (a15, v15) :: (a16, v16) :: (a17, v17) :: (a18, v18) :: (a19, v19) :: l) :=
  have k := h.2.2.2.2.2.2.2.2.2.2.2.2.2.2.2.2.2.2.2.2.step hb
  ⟨k.get 0 rfl, k.get 1 rfl, k.get 2 rfl, k.get 3 rfl, k.get 4 rfl, k.get 5 rfl, k.get 6 rfl, k.get 7 rfl, k.get 8 rfl, k.get 9 rfl, k.get 10 rfl, k.get 11 rfl, k.get 12 rfl, k.get 13 rfl, k.get 14 rfl, k.get 15 rfl, k.get 16 rfl, k.get 17 rfl, k.get 18 rfl, k.get 19 rfl, k⟩
end Go.Proofs.YtndebdimjlfepaaDoor

namespace Go.Proofs.YtndebdimjlfepaaDoor
open Go.RowKit Num

theorem Kept.alloc5 {W w : World} {l : List (Addr × Value)} (h : Kept W w l) (x y u v z : Value) (t : TypeId) (B : Nat) (hB : w.heap.size = B) :
    Kept W (w.alloc (.cells #[x, y, u, v, z] t)) ((⟨B, 0, none⟩, x) :: (⟨B, 1, none⟩, y) :: (⟨B, 2, none⟩, u) :: (⟨B, 3, none⟩, v) :: (⟨B, 4, none⟩, z) :: l) := by
  subst hB
  have h1 := h.step ((Below.refl w.heap.size w).alloc (Nat.le_refl _) (.cells #[x, y, u, v, z] t))
  refine ⟨h1.1, fun p hp => ?_⟩
  simp only [List.mem_cons] at hp
  rcases hp with rfl | rfl | rfl | rfl | rfl | hp
  · exact ⟨by simp, by go_simp, by go_simp⟩
  · exact ⟨by simp, by go_simp, by go_simp⟩
  · exact ⟨by simp, by go_simp, by go_simp⟩
  · exact ⟨by simp, by go_simp, by go_simp⟩
  · exact ⟨by simp, by go_simp, by go_simp⟩
  · exact h1.2 p hp

/-- A range test by its Bool. -/
theorem l1In_b (n lo hi : Int) (w : World) : Calls Tryd.prog 70 #[.int .i64 n, .int .i64 lo, .int .i64 hi] w fun e w' => e = .returned (.bool (decide (lo ≤ n ∧ n ≤ hi))) ∧ w = w' := by
  by_cases h : lo ≤ n ∧ n ≤ hi
  · rw [decide_eq_true h]; exact l1In_yes n lo hi w h.1 h.2
  · rw [decide_eq_false h]; exact l1In_no n lo hi w (by omega)

set_option maxRecDepth 8000 in
set_option maxHeartbeats 3200000 in
theorem spec_rv (i g y x : Int) (nl : Bool) (w : World) :
    Calls Tryd.prog 37 #[.agg #[.int .i64 i, .int .i64 g, .int .i64 y, .int .i64 x, .bool nl]] w fun r9 w' => r9 = .returned (.bool (rowB i g y x nl)) ∧ Below w.heap.size w w' := by
  have D1 := fun w => l1In_b i 1 99 w
  have D2 := fun w => l1In_b g 0 3 w
  have D3 := fun w => l1In_b y 0 8 w
  have D4 := fun w => l1In_b x (-99) 99 w
  have E0 : rowB i g y x nl = (decide (1 ≤ i ∧ i ≤ 99) && (decide (0 ≤ g ∧ g ≤ 3) && (decide (0 ≤ y ∧ y ≤ 8) && (decide (-99 ≤ x ∧ x ≤ 99) && (!nl || decide (x = 0)))))) := rfl
  obtain ⟨q1, hq1⟩ : ∃ q, q = decide (1 ≤ i ∧ i ≤ 99) := ⟨_, rfl⟩
  rw [← hq1] at D1 E0
  have DD1 := Lib.hid D1
  clear D1 hq1
  obtain ⟨q2, hq2⟩ : ∃ q, q = decide (0 ≤ g ∧ g ≤ 3) := ⟨_, rfl⟩
  rw [← hq2] at D2 E0
  have DD2 := Lib.hid D2
  clear D2 hq2
  obtain ⟨q3, hq3⟩ : ∃ q, q = decide (0 ≤ y ∧ y ≤ 8) := ⟨_, rfl⟩
  rw [← hq3] at D3 E0
  have DD3 := Lib.hid D3
  clear D3 hq3
  obtain ⟨q4, hq4⟩ : ∃ q, q = decide (-99 ≤ x ∧ x ≤ 99) := ⟨_, rfl⟩
  rw [← hq4] at D4 E0
  have DD4 := Lib.hid D4
  clear D4 hq4
  cases q1
  · have E := Lib.hid E0
    clear E0
    go_enter Tryd.func37, Tryd.ntmps37
    go_wp2_with fail
    have K0 := (Kept.start w).alloc5 (.int .i64 i) (.int .i64 g) (.int .i64 y) (.int .i64 x) (.bool nl) 25 _ rfl
    have k0 := K0.get 0 rfl
    have k1 := K0.get 1 rfl
    have k2 := K0.get 2 rfl
    have k3 := K0.get 3 rfl
    have k4 := K0.get 4 rfl
    refine (DD1.out _).mono ?_
    rintro r9 w1 ⟨rfl, rfl⟩
    go_wp2
    go_ret
    exact ⟨by rw [E.out]; rfl, K0.1⟩
  · cases q2
    · have E := Lib.hid E0
      clear E0
      go_enter Tryd.func37, Tryd.ntmps37
      go_wp2_with fail
      have K0 := (Kept.start w).alloc5 (.int .i64 i) (.int .i64 g) (.int .i64 y) (.int .i64 x) (.bool nl) 25 _ rfl
      have k0 := K0.get 0 rfl
      have k1 := K0.get 1 rfl
      have k2 := K0.get 2 rfl
      have k3 := K0.get 3 rfl
      have k4 := K0.get 4 rfl
      refine (DD1.out _).mono ?_
      rintro r9 w1 ⟨rfl, rfl⟩
      go_wp2_with fail
      refine (DD2.out _).mono ?_
      rintro r9 w2 ⟨rfl, rfl⟩
      go_wp2
      go_ret
      exact ⟨by rw [E.out]; rfl, K0.1⟩
    · cases q3
      · have E := Lib.hid E0
        clear E0
        go_enter Tryd.func37, Tryd.ntmps37
        go_wp2_with fail
        have K0 := (Kept.start w).alloc5 (.int .i64 i) (.int .i64 g) (.int .i64 y) (.int .i64 x) (.bool nl) 25 _ rfl
        have k0 := K0.get 0 rfl
        have k1 := K0.get 1 rfl
        have k2 := K0.get 2 rfl
        have k3 := K0.get 3 rfl
        have k4 := K0.get 4 rfl
        refine (DD1.out _).mono ?_
        rintro r9 w1 ⟨rfl, rfl⟩
        go_wp2_with fail
        refine (DD2.out _).mono ?_
        rintro r9 w2 ⟨rfl, rfl⟩
        go_wp2_with fail
        refine (DD3.out _).mono ?_
        rintro r9 w3 ⟨rfl, rfl⟩
        go_wp2
        go_ret
        exact ⟨by rw [E.out]; rfl, K0.1⟩
      · cases q4
        · have E := Lib.hid E0
          clear E0
          go_enter Tryd.func37, Tryd.ntmps37
          go_wp2_with fail
          have K0 := (Kept.start w).alloc5 (.int .i64 i) (.int .i64 g) (.int .i64 y) (.int .i64 x) (.bool nl) 25 _ rfl
          have k0 := K0.get 0 rfl
          have k1 := K0.get 1 rfl
          have k2 := K0.get 2 rfl
          have k3 := K0.get 3 rfl
          have k4 := K0.get 4 rfl
          refine (DD1.out _).mono ?_
          rintro r9 w1 ⟨rfl, rfl⟩
          go_wp2_with fail
          refine (DD2.out _).mono ?_
          rintro r9 w2 ⟨rfl, rfl⟩
          go_wp2_with fail
          refine (DD3.out _).mono ?_
          rintro r9 w3 ⟨rfl, rfl⟩
          go_wp2_with fail
          refine (DD4.out _).mono ?_
          rintro r9 w4 ⟨rfl, rfl⟩
          go_wp2
          go_ret
          exact ⟨by rw [E.out]; rfl, K0.1⟩
        · cases nl
          · have E := Lib.hid E0
            clear E0
            go_enter Tryd.func37, Tryd.ntmps37
            go_wp2_with fail
            have K0 := (Kept.start w).alloc5 (.int .i64 i) (.int .i64 g) (.int .i64 y) (.int .i64 x) (.bool false) 25 _ rfl
            have k0 := K0.get 0 rfl
            have k1 := K0.get 1 rfl
            have k2 := K0.get 2 rfl
            have k3 := K0.get 3 rfl
            have k4 := K0.get 4 rfl
            refine (DD1.out _).mono ?_
            rintro r9 w1 ⟨rfl, rfl⟩
            go_wp2_with fail
            refine (DD2.out _).mono ?_
            rintro r9 w2 ⟨rfl, rfl⟩
            go_wp2_with fail
            refine (DD3.out _).mono ?_
            rintro r9 w3 ⟨rfl, rfl⟩
            go_wp2_with fail
            refine (DD4.out _).mono ?_
            rintro r9 w4 ⟨rfl, rfl⟩
            go_wp2
            go_ret
            exact ⟨by rw [E.out]; rfl, K0.1⟩
          · by_cases hx : x = 0
            · subst hx
              have E := Lib.hid E0
              clear E0
              go_enter Tryd.func37, Tryd.ntmps37
              go_wp2_with fail
              have K0 := (Kept.start w).alloc5 (.int .i64 i) (.int .i64 g) (.int .i64 y) (.int .i64 0) (.bool true) 25 _ rfl
              have k0 := K0.get 0 rfl
              have k1 := K0.get 1 rfl
              have k2 := K0.get 2 rfl
              have k3 := K0.get 3 rfl
              have k4 := K0.get 4 rfl
              refine (DD1.out _).mono ?_
              rintro r9 w1 ⟨rfl, rfl⟩
              go_wp2_with fail
              refine (DD2.out _).mono ?_
              rintro r9 w2 ⟨rfl, rfl⟩
              go_wp2_with fail
              refine (DD3.out _).mono ?_
              rintro r9 w3 ⟨rfl, rfl⟩
              go_wp2_with fail
              refine (DD4.out _).mono ?_
              rintro r9 w4 ⟨rfl, rfl⟩
              go_wp2
              go_ret
              exact ⟨by rw [E.out]; rfl, K0.1⟩
            · rw [decide_eq_false hx] at E0
              have qx : (x == 0) = false := beq_eq_false_iff_ne.2 hx
              have HX := Lib.hid hx
              have E := Lib.hid E0
              clear E0 hx
              go_enter Tryd.func37, Tryd.ntmps37
              go_wp2_with fail
              have K0 := (Kept.start w).alloc5 (.int .i64 i) (.int .i64 g) (.int .i64 y) (.int .i64 x) (.bool true) 25 _ rfl
              have k0 := K0.get 0 rfl
              have k1 := K0.get 1 rfl
              have k2 := K0.get 2 rfl
              have k3 := K0.get 3 rfl
              have k4 := K0.get 4 rfl
              refine (DD1.out _).mono ?_
              rintro r9 w1 ⟨rfl, rfl⟩
              go_wp2_with fail
              refine (DD2.out _).mono ?_
              rintro r9 w2 ⟨rfl, rfl⟩
              go_wp2_with fail
              refine (DD3.out _).mono ?_
              rintro r9 w3 ⟨rfl, rfl⟩
              go_wp2_with fail
              refine (DD4.out _).mono ?_
              rintro r9 w4 ⟨rfl, rfl⟩
              go_wp2
              go_ret
              exact ⟨by rw [E.out]; rfl, K0.1⟩
end Go.Proofs.YtndebdimjlfepaaDoor

namespace Go.Proofs.YtndebdimjlfepaaDoor
open Go.RowKit

set_option maxRecDepth 8000 in
set_option maxHeartbeats 3200000 in
theorem law_toR (i g y x : Int) (nl : Bool) (w : World) :
    Calls Tryd.prog 11 #[.agg #[.int .i64 i, .int .i64 g, .int .i64 y, .int .i64 x, .bool nl]] w fun e w' => e = .returned (.agg #[.int .i64 i, .int .i64 g, .int .i64 y, .int .i64 x, .bool nl]) ∧ Below w.heap.size w w' := by
  go_enter Tryd.func11, Tryd.ntmps11
  go_wp2
  exact bodyPost_ret (v := .agg #[.int .i64 i, .int .i64 g, .int .i64 y, .int .i64 x, .bool nl]) (by simp [results, Tryd.results11, go_sem]) rfl ⟨rfl, (((Below.refl _ _).alloc (Nat.le_refl _) _).alloc (by simp) _).alloc (by simp; omega) _⟩

set_option maxRecDepth 8000 in
set_option maxHeartbeats 3200000 in
theorem law_eqR (i g y x : Int) (nl : Bool) (w : World) :
    Calls Tryd.prog 15 #[.agg #[.int .i64 i, .int .i64 g, .int .i64 y, .int .i64 x, .bool nl], .agg #[.int .i64 i, .int .i64 g, .int .i64 y, .int .i64 x, .bool nl]] w fun e w' => e = .returned (.bool true) ∧ Below w.heap.size w w' := by
  go_enter Tryd.func15, Tryd.ntmps15
  have K0 := ((Kept.start w).alloc5 (.int .i64 i) (.int .i64 g) (.int .i64 y) (.int .i64 x) (.bool nl) 25 _ rfl).alloc5 (.int .i64 i) (.int .i64 g) (.int .i64 y) (.int .i64 x) (.bool nl) 25 (w.heap.size + 1) (by simp)
  cases nl
  · go_wp2
    go_ret
    exact ⟨rfl, K0.1⟩
  · go_wp2
    go_ret
    exact ⟨rfl, K0.1⟩
end Go.Proofs.YtndebdimjlfepaaDoor

namespace Go.Proofs.YtndebdimjlfepaaDoor
open Go.RowKit Num

theorem takeS_snoc (s : ByteArray) (k : Nat) (h : k < s.size) : s.data.toList.take (k + 1) = s.data.toList.take k ++ [s[k]] := by
  rw [List.take_succ_eq_append_getElem (by simpa using h)]; rfl

/-- What both functions leave. -/
def PiPost (s : ByteArray) (w : World) (e : Ending) (w' : World) : Prop := (∃ (n : Int) (ok : Bool), PIans s.data.toList n ok ∧ e = .returned (.tuple #[.int .i64 n, .bool ok])) ∧ Below w.heap.size w w'

theorem eq_bytes (l : List UInt8) (s : ByteArray) : (l == s.toList) = decide (s.data.toList = l) := by
  rw [Lib.toList_data]
  by_cases h : s.data.toList = l
  · rw [h]; simp
  · have h' : ¬ l = s.data.toList := fun e => h e.symm
    rw [decide_eq_false h]
    exact beq_eq_false_iff_ne.2 h'

theorem fN_bd11 (l : List UInt8) (h : l.length ≤ 11) : fN l ≤ 99999999999 := by
  have h1 := fN_bd l
  have h2 : 10 ^ fK l ≤ 10 ^ 11 := Nat.pow_le_pow_right (by decide) (Nat.le_trans (fK_le l) h)
  have e : (10 : Nat) ^ 11 = 100000000000 := by decide
  omega

/-- The text's sign, as the model sees it. -/
theorem cut_of (s : ByteArray) : (s.size = 0 ∧ Cut s.data.toList [] false) ∨ (∃ h : 0 < s.size, s[0].toNat = 45 ∧ ∃ d, Cut s.data.toList d true) ∨ (∃ h : 0 < s.size, s[0].toNat ≠ 45 ∧ ∃ d, Cut s.data.toList d false) := by
  have hl : s.data.toList.length = s.size := by simp
  have hd : ∀ (h : 0 < s.size), s.data.toList = s[0] :: s.data.toList.drop 1 := fun h => by
    have := List.drop_eq_getElem_cons (l := s.data.toList) (i := 0) (by omega)
    rw [List.drop_zero] at this
    exact this
  by_cases h0 : s.size = 0
  · exact .inl ⟨h0, .inr ⟨rfl, List.eq_nil_of_length_eq_zero (by omega), by simp⟩⟩
  · have hp : 0 < s.size := by omega
    by_cases h1 : s[0].toNat = 45
    · refine .inr (.inl ⟨hp, h1, s.data.toList.drop 1, .inl ⟨rfl, ?_⟩⟩)
      have e : s[0] = 45 := UInt8.toNat_inj.mp h1
      rw [← e]; exact hd hp
    · refine .inr (.inr ⟨hp, h1, s.data.toList, .inr ⟨rfl, rfl, ?_⟩⟩)
      rw [hd hp]
      simp
      intro e
      exact h1 (by rw [e]; rfl)

theorem fN_bd10 (l : List UInt8) (h : l.length ≤ 10) : fN l ≤ 9999999999 := by
  have h1 := fN_bd l
  have h2 : 10 ^ fK l ≤ 10 ^ 10 := Nat.pow_le_pow_right (by decide) (Nat.le_trans (fK_le l) h)
  have e : (10 : Nat) ^ 10 = 10000000000 := by decide
  omega

set_option maxRecDepth 8000 in
set_option maxHeartbeats 1600000 in
theorem spec_pi (s : ByteArray) (w : World) (hb : s.size ≤ 1048576) :
    Calls Tryd.prog 73 #[.string s] w (PiPost s w) := by
  have HLen : Hid (s.data.toList.length = s.size) := (show _ = _ from by simp)
  go_enter Tryd.func73, Tryd.ntmps73
  go_wp2
  go_loop [4, 5, 6] (fun nv kv iv => ∃ i : Nat, i ≤ s.size ∧ i ≤ 11 ∧ iv = .int .i64 i ∧ nv = .int .i64 (fN (s.data.toList.take i) : Nat) ∧ kv = .int .i64 (fK (s.data.toList.take i) : Nat)) (fun _ _ iv => 12 - (intOf iv).toNat)
  case atStart => exact ⟨0, Nat.zero_le _, by omega, rfl, rfl, rfl⟩
  case round =>
    obtain ⟨i, hi, hi11, rfl, rfl, rfl⟩ := hrel
    by_cases hlt : i < s.size ∧ i < 11
    · obtain ⟨hls, hl11⟩ := hlt
      have hI : (i : Int) < s.size := by omega
      have hI2 : (i : Int) < 11 := by omega
      have hn := fN_bd10 (s.data.toList.take i) (by rw [List.length_take]; omega)
      have hk := fK_le (s.data.toList.take i)
      have hkl : (s.data.toList.take i).length ≤ 10 := by rw [List.length_take]; omega
      have hbyte : s[i].toNat < 256 := s[i].toNat_lt
      by_cases hd : isD s[i]
      · have HN : Hid (fN (s.data.toList.take (i + 1)) = fN (s.data.toList.take i) * 10 + (s[i].toNat - 48)) := (show _ = _ from by rw [takeS_snoc s i hls, fN_snoc, if_pos hd])
        have HK : Hid (fK (s.data.toList.take (i + 1)) = fK (s.data.toList.take i) + 1) := (show _ = _ from by rw [takeS_snoc s i hls, fK_snoc, if_pos hd])
        have hd1 : (48 : Int) ≤ (s[i].toNat : Int) := by have := hd.1; omega
        have hd2 : (s[i].toNat : Int) ≤ 57 := by have := hd.2; omega
        clear hd
        go_wp2
        go_round
        case rel => exact ⟨i + 1, by omega, by omega, by go_num, by rw [HN.out]; go_num, by rw [HK.out]; go_num⟩
        case measure => simp [intOf]; omega
      · have HN : Hid (fN (s.data.toList.take (i + 1)) = fN (s.data.toList.take i)) := (show _ = _ from by rw [takeS_snoc s i hls, fN_snoc, if_neg hd])
        have HK : Hid (fK (s.data.toList.take (i + 1)) = fK (s.data.toList.take i)) := (show _ = _ from by rw [takeS_snoc s i hls, fK_snoc, if_neg hd])
        unfold isD at hd
        by_cases hd1 : (48 : Int) ≤ (s[i].toNat : Int)
        · have hd2 : ¬ (s[i].toNat : Int) ≤ 57 := by omega
          clear hd
          go_wp2
          go_round
          case rel => exact ⟨i + 1, by omega, by omega, by go_num, by rw [HN.out], by rw [HK.out]⟩
          case measure => simp [intOf]; omega
        · clear hd
          go_wp2
          go_round
          case rel => exact ⟨i + 1, by omega, by omega, by go_num, by rw [HN.out], by rw [HK.out]⟩
          case measure => simp [intOf]; omega
    · have hiN : i = s.size ∧ s.size < 11 ∨ i = 11 ∧ 11 ≤ s.size := by omega
      rcases hiN with ⟨rfl, hs11⟩ | ⟨rfl, hs11⟩
      · skip
        · skip
          have hI : ¬ ((s.size : Nat) : Int) < s.size := by omega
          have hall : s.data.toList.take s.size = s.data.toList := List.take_of_length_le (by rw [HLen.out]; omega)
          rw [hall]
          clear hall hlt
          have hN := fN_bd11 s.data.toList (by rw [HLen.out]; omega)
          have hNI : ((fN s.data.toList : Nat) : Int) ≤ 99999999999 := by omega
          have hs10 : (s.size : Int) ≤ 10 := by omega
          rcases cut_of s with ⟨hz, hc⟩ | ⟨hp, h45, d, hc⟩ | ⟨hp, h45, d, hc⟩
          · have hzI : ¬ (0 : Int) < s.size := by omega
            have HC : Hid (Cut s.data.toList [] false) := hc
            clear hc hz
            by_cases hk9 : fK s.data.toList ≤ 9
            · have hkI : ((fK s.data.toList : Nat) : Int) ≤ 9 := by omega
              by_cases he : s.data.toList = Lib.itoa ((fN s.data.toList : Nat) : Int)
              · have hq : (Lib.itoa ((fN s.data.toList : Nat) : Int) == s.toList) = true := by rw [eq_bytes, decide_eq_true he]
                have ANS : Hid (PIans s.data.toList ((fN s.data.toList : Nat) : Int) true) := pi_yes (neg := false) hk9 he
                clear he HC
                go_wp2_with (first | (go_at_call 38; refine (spec_fi _ _ (by omega) (by omega)).mono ?_; rintro e w1 ⟨rfl, hb1⟩))
                go_ret2
                exact ⟨⟨_, _, ANS.out, rfl⟩, hb1⟩
              · have hq : (Lib.itoa ((fN s.data.toList : Nat) : Int) == s.toList) = false := by rw [eq_bytes, decide_eq_false he]
                have ANS : Hid (PIans s.data.toList 0 false) := pi_other (neg := false) HC.out he
                clear he HC
                go_wp2_with (first | (go_at_call 38; refine (spec_fi _ _ (by omega) (by omega)).mono ?_; rintro e w1 ⟨rfl, hb1⟩))
                go_ret2
                exact ⟨⟨_, _, ANS.out, rfl⟩, hb1⟩
            · have hkI : (9 : Int) < ((fK s.data.toList : Nat) : Int) := by omega
              have ANS : Hid (PIans s.data.toList 0 false) := pi_many HC.out (by omega)
              clear HC
              go_wp2
              go_ret2
              exact ⟨⟨_, _, ANS.out, rfl⟩, Below.refl _ _⟩
          · have hpI : (0 : Int) < s.size := by omega
            have h45I : ((s[0].toNat : Int) == 45) = true := by rw [h45]; rfl
            have HC : Hid (Cut s.data.toList d true) := hc
            clear hc h45
            by_cases hk9 : fK s.data.toList ≤ 9
            · have hkI : ((fK s.data.toList : Nat) : Int) ≤ 9 := by omega
              by_cases he : s.data.toList = Lib.itoa (-((fN s.data.toList : Nat) : Int))
              · have hq : (Lib.itoa (-((fN s.data.toList : Nat) : Int)) == s.toList) = true := by rw [eq_bytes, decide_eq_true he]
                have ANS : Hid (PIans s.data.toList (-((fN s.data.toList : Nat) : Int)) true) := pi_yes (neg := true) hk9 he
                clear he HC
                go_wp2_with (first | (go_at_call 38; refine (spec_fi _ _ (by omega) (by omega)).mono ?_; rintro e w1 ⟨rfl, hb1⟩))
                go_ret2
                exact ⟨⟨_, _, ANS.out, rfl⟩, hb1⟩
              · have hq : (Lib.itoa (-((fN s.data.toList : Nat) : Int)) == s.toList) = false := by rw [eq_bytes, decide_eq_false he]
                have ANS : Hid (PIans s.data.toList 0 false) := pi_other (neg := true) HC.out he
                clear he HC
                go_wp2_with (first | (go_at_call 38; refine (spec_fi _ _ (by omega) (by omega)).mono ?_; rintro e w1 ⟨rfl, hb1⟩))
                go_ret2
                exact ⟨⟨_, _, ANS.out, rfl⟩, hb1⟩
            · have hkI : (9 : Int) < ((fK s.data.toList : Nat) : Int) := by omega
              have ANS : Hid (PIans s.data.toList 0 false) := pi_many HC.out (by omega)
              clear HC
              go_wp2
              go_ret2
              exact ⟨⟨_, _, ANS.out, rfl⟩, Below.refl _ _⟩
          · have hpI : (0 : Int) < s.size := by omega
            have h45I : ((s[0].toNat : Int) == 45) = false := beq_eq_false_iff_ne.2 (by omega)
            have HC : Hid (Cut s.data.toList d false) := hc
            clear hc h45
            by_cases hk9 : fK s.data.toList ≤ 9
            · have hkI : ((fK s.data.toList : Nat) : Int) ≤ 9 := by omega
              by_cases he : s.data.toList = Lib.itoa ((fN s.data.toList : Nat) : Int)
              · have hq : (Lib.itoa ((fN s.data.toList : Nat) : Int) == s.toList) = true := by rw [eq_bytes, decide_eq_true he]
                have ANS : Hid (PIans s.data.toList ((fN s.data.toList : Nat) : Int) true) := pi_yes (neg := false) hk9 he
                clear he HC
                go_wp2_with (first | (go_at_call 38; refine (spec_fi _ _ (by omega) (by omega)).mono ?_; rintro e w1 ⟨rfl, hb1⟩))
                go_ret2
                exact ⟨⟨_, _, ANS.out, rfl⟩, hb1⟩
              · have hq : (Lib.itoa ((fN s.data.toList : Nat) : Int) == s.toList) = false := by rw [eq_bytes, decide_eq_false he]
                have ANS : Hid (PIans s.data.toList 0 false) := pi_other (neg := false) HC.out he
                clear he HC
                go_wp2_with (first | (go_at_call 38; refine (spec_fi _ _ (by omega) (by omega)).mono ?_; rintro e w1 ⟨rfl, hb1⟩))
                go_ret2
                exact ⟨⟨_, _, ANS.out, rfl⟩, hb1⟩
            · have hkI : (9 : Int) < ((fK s.data.toList : Nat) : Int) := by omega
              have ANS : Hid (PIans s.data.toList 0 false) := pi_many HC.out (by omega)
              clear HC
              go_wp2
              go_ret2
              exact ⟨⟨_, _, ANS.out, rfl⟩, Below.refl _ _⟩
      · have hI : (11 : Int) ≤ s.size := by omega
        have hI10 : (10 : Int) < s.size := by omega
        have hI0 : (0 : Int) < s.size := by omega
        have hN := fN_bd11 (s.data.toList.take 11) (by rw [List.length_take]; omega)
        have hNI : ((fN (s.data.toList.take 11) : Nat) : Int) ≤ 99999999999 := by omega
        have ANS : Hid (PIans s.data.toList 0 false) := by
          rcases cut_of s with ⟨hz, hc⟩ | ⟨hp, h45, d, hc⟩ | ⟨hp, h45, d, hc⟩
          · exact pi_long hc (by rw [HLen.out]; omega)
          · exact pi_long hc (by rw [HLen.out]; omega)
          · exact pi_long hc (by rw [HLen.out]; omega)
        clear hlt
        by_cases hk9 : fK (s.data.toList.take 11) ≤ 9
        · have hkI : ((fK (s.data.toList.take 11) : Nat) : Int) ≤ 9 := by omega
          go_wp2
          all_goals
            go_ret2
            exact ⟨⟨_, _, ANS.out, rfl⟩, Below.refl _ _⟩
        · have hkI : (9 : Int) < ((fK (s.data.toList.take 11) : Nat) : Int) := by omega
          go_wp2
          all_goals
            go_ret2
            exact ⟨⟨_, _, ANS.out, rfl⟩, Below.refl _ _⟩
end Go.Proofs.YtndebdimjlfepaaDoor

namespace Go.Proofs.YtndebdimjlfepaaDoor
open Go.RowKit Num

theorem cat_row (a b c d : List UInt8) : (⟨a.toArray⟩ : ByteArray) ++ (⟨#[58]⟩ : ByteArray) ++ (⟨b.toArray⟩ : ByteArray) ++ (⟨#[44]⟩ : ByteArray) ++ (⟨c.toArray⟩ : ByteArray) ++ (⟨#[44]⟩ : ByteArray) ++ (⟨d.toArray⟩ : ByteArray) = ⟨(a ++ 58 :: (b ++ 44 :: (c ++ 44 :: d))).toArray⟩ := by
  apply ByteArray.ext
  simp

set_option maxRecDepth 8000 in
set_option maxHeartbeats 6400000 in
theorem spec_fr (i g y x : Int) (nl : Bool) (w : World) :
    Calls Tryd.prog 10 #[.agg #[.int .i64 i, .int .i64 g, .int .i64 y, .int .i64 x, .bool nl]] w fun r9 w' => r9 = .returned (.string ⟨(fmtR i g y x nl).toArray⟩) ∧ Below w.heap.size w w' := by
  have D1 := fun w => spec_rv i g y x nl w
  cases hq : rowB i g y x nl
  · rw [fmtR_no hq]
    rw [hq] at D1
    have DD1 := Lib.hid D1
    clear D1 hq
    go_enter Tryd.func10, Tryd.ntmps10
    go_wp2_with fail
    have K0 := (Kept.start w).alloc5 (.int .i64 i) (.int .i64 g) (.int .i64 y) (.int .i64 x) (.bool nl) 25 _ rfl
    refine (DD1.out _).mono ?_
    rintro r9 w1 ⟨rfl, hb⟩
    have K1 := K0.step hb
    clear hb K0
    go_wp2
    go_ret
    exact ⟨rfl, K1.1⟩
  · obtain ⟨b1, b2, b3, b4, b5⟩ := rowB_of hq
    rw [fmtR_yes hq]
    rw [hq] at D1
    have DI := fun w => spec_fi i w (by omega) (by omega)
    have DG := fun w => spec_fi g w (by omega) (by omega)
    have DY := fun w => spec_fi y w (by omega) (by omega)
    have DX := fun w => spec_fi x w (by omega) (by omega)
    have li := Lib.itoa_length_le i (by omega) (by omega)
    have lg := Lib.itoa_length_le g (by omega) (by omega)
    have ly := Lib.itoa_length_le y (by omega) (by omega)
    have lx := Lib.itoa_length_le x (by omega) (by omega)
    have XN := Lib.hid (show xT x true = nullW from rfl)
    have XF := Lib.hid (show xT x false = Lib.itoa x from rfl)
    obtain ⟨a, ha⟩ : ∃ a, a = Lib.itoa i := ⟨_, rfl⟩
    obtain ⟨b, hb0⟩ : ∃ b, b = Lib.itoa g := ⟨_, rfl⟩
    obtain ⟨c, hc⟩ : ∃ c, c = Lib.itoa y := ⟨_, rfl⟩
    obtain ⟨d, hd⟩ : ∃ d, d = Lib.itoa x := ⟨_, rfl⟩
    rw [← ha] at DI li
    rw [← hb0] at DG lg
    rw [← hc] at DY ly
    rw [← hd] at DX lx XF
    rw [← ha, ← hb0, ← hc]
    have DD1 := Lib.hid D1
    have DDI := Lib.hid DI
    have DDG := Lib.hid DG
    have DDY := Lib.hid DY
    have DDX := Lib.hid DX
    have s1 : ¬ 9223372036854775807 < a.length + 1 := by omega
    have s2 : ¬ 9223372036854775807 < a.length + 1 + b.length := by omega
    have s3 : ¬ 9223372036854775807 < a.length + 1 + b.length + 1 := by omega
    have s4 : ¬ 9223372036854775807 < a.length + 1 + b.length + 1 + c.length := by omega
    have s5 : ¬ 9223372036854775807 < a.length + 1 + b.length + 1 + c.length + 1 := by omega
    have s6 : ¬ 9223372036854775807 < a.length + 1 + b.length + 1 + c.length + 1 + 4 := by omega
    have s7 : ¬ 9223372036854775807 < a.length + 1 + b.length + 1 + c.length + 1 + d.length := by omega
    clear D1 DI DG DY DX ha hb0 hc hd hq b1 b2 b3 b4 b5 li lg ly lx
    go_enter Tryd.func10, Tryd.ntmps10
    go_wp2_with fail
    have K0 := (Kept.start w).alloc5 (.int .i64 i) (.int .i64 g) (.int .i64 y) (.int .i64 x) (.bool nl) 25 _ rfl
    refine (DD1.out _).mono ?_
    rintro r9 w1 ⟨rfl, hb⟩
    have K1 := K0.step hb
    clear hb K0
    go_wp2_with fail
    go_region_held3 (fun w' => w'.cell? ⟨w.heap.size, 0, none⟩ = some (.int .i64 i) ∧ w'.cell? ⟨w.heap.size, 1, none⟩ = some (.int .i64 g) ∧ w'.cell? ⟨w.heap.size, 2, none⟩ = some (.int .i64 y) ∧ w'.cell? ⟨w.heap.size, 3, none⟩ = some (.int .i64 x) ∧ Kept w w' [(⟨w.heap.size, 0, none⟩, .int .i64 i), (⟨w.heap.size, 1, none⟩, .int .i64 g), (⟨w.heap.size, 2, none⟩, .int .i64 y), (⟨w.heap.size, 3, none⟩, .int .i64 x), (⟨w.heap.size, 4, none⟩, .bool nl)]) (first | assumption | exact s4_start K1 | exact s4_keep (by assumption) (by assumption)) (first | (go_simp; go_at_call 38; (with_reducible refine (DDI.out _).mono ?_); rintro e9 w9 ⟨rfl, hb⟩) | (go_simp; go_at_call 38; (with_reducible refine (DDG.out _).mono ?_); rintro e9 w9 ⟨rfl, hb⟩) | (go_simp; go_at_call 38; (with_reducible refine (DDY.out _).mono ?_); rintro e9 w9 ⟨rfl, hb⟩))
    have K2 := ‹_ ∧ _ ∧ _ ∧ _ ∧ Kept w w9 _›.2.2.2.2
    have k3 := K2.get 3 rfl
    have k4 := K2.get 4 rfl
    cases nl
    · go_wp2_with fail
      refine (DDX.out _).mono ?_
      rintro r9 w3 ⟨rfl, hb⟩
      have K3 := K2.step hb
      go_wp2
      go_ret
      exact ⟨by rw [XF.out, ← cat_row]; rfl, K3.1⟩
    · go_wp2
      go_ret
      exact ⟨by rw [XN.out, ← cat_row]; rfl, K2.1⟩

/-- What l4Num answers: the number, or -1000. -/
def NumPost (s : ByteArray) (w : World) (e : Ending) (w' : World) : Prop := (∃ n : Int, ((∃ m, PIans s.data.toList m true ∧ n = m) ∨ ((∀ m, ¬ PIok s.data.toList m) ∧ n = -1000)) ∧ e = .returned (.int .i64 n)) ∧ Below w.heap.size w w'

theorem spec_num (s : ByteArray) (w : World) (hs : s.size ≤ 1048576) :
    Calls Tryd.prog 43 #[.string s] w (NumPost s w) := by
  have HP := Lib.hid (fun w => spec_pi s w hs)
  go_enter Tryd.func43, Tryd.ntmps43
  go_wp2_with fail
  refine (HP.out _).mono ?_
  rintro e w1 ⟨⟨n, k, hn, rfl⟩, hb⟩
  cases k
  · have AN := Lib.hid (show NumPost s w (.returned (.int .i64 (-1000))) w1 from ⟨⟨-1000, .inr ⟨fun m hm => by rcases hn with ⟨h, _⟩ | ⟨_, _, h⟩; cases h; exact h m hm, rfl⟩, rfl⟩, hb⟩)
    clear hn
    go_wp2
    go_ret
    exact AN.out
  · have AN := Lib.hid (show NumPost s w (.returned (.int .i64 n)) w1 from ⟨⟨n, .inl ⟨n, hn, rfl⟩, rfl⟩, hb⟩)
    clear hn
    go_wp2
    go_ret
    exact AN.out
end Go.Proofs.YtndebdimjlfepaaDoor

namespace Go.Proofs.YtndebdimjlfepaaDoor
open Go.RowKit

/-- The cells of the texts l. -/
def scells (l : List (List UInt8)) : List Value := l.map fun b => Value.string ⟨b.toArray⟩

/-- The slice v owns the texts l among the blocks from B on. -/
def Strs (w : World) (B : Nat) (v : Value) (l : List (List UInt8)) : Prop := w.ownsRow B 9 1 v l.length (scells l)

theorem Tryd.infoStr : (Tryd.prog.info? 9).map (fun i => (i.zero, i.size, i.bytes)) = some (some (.string ByteArray.empty), 1, 16) := by kernel_rfl

theorem Strs.nil (w : World) (B : Nat) : Strs w B (.slice none 0 0) [] := ⟨rfl, .inl ⟨rfl, rfl⟩⟩

theorem Strs.lit (w : World) (B : Nat) (hB : B ≤ w.heap.size) : Strs (w.alloc (.cells #[] 9)) B (.slice (some ⟨w.heap.size, 0, none⟩) 0 0) [] :=
  World.ownsRow_lit w #[] 0 hB (by decide) rfl

theorem scells_append (l m : List (List UInt8)) : scells (l ++ m) = scells l ++ scells m := by simp [scells]
theorem scells_len (l : List (List UInt8)) : (scells l).length = l.length := by simp [scells]

/-- 'append(out, s)': the new text lies in a new block of its own. -/
theorem wpList_append_text {ops : Array Oper} {rest : List Oper} {o : Oper} {a : Act} {Q : Exit → Act → World → Prop} {W w : World} (hgd : o.guard = none) (s x : Operand)
    (ho : o.op = .call { callee := .builtin .append, args := #[s, x], argTypes := #[71, 71] })
    (B : Nat) (v : Value) (l : List (List UInt8)) (b : List UInt8) (hs : a.eval s = v) (hown : Strs w B v l) (cs : Array Value) (hcs : cs = #[.string ⟨b.toArray⟩]) (c : Nat)
    (hx : a.eval x = .slice (some ⟨w.heap.size, 0, none⟩) 1 c) (hlen : (l.length + 1) * 16 ≤ 140737488355328) (hB : B ≤ w.heap.size) (hbel : Below B W w)
    (h : ∀ v' w', Strs w' B v' (l ++ [b]) → Below B W w' → wpList Tryd.prog ops Q rest (a.put o.dst v') w') : wpList Tryd.prog ops Q (o :: rest) a (w.alloc (.cells cs 9)) := by
  obtain ⟨i0, hi, hz0, hz1, hz2⟩ := info_parts Tryd.infoStr
  subst hcs
  have hlt : ∀ k, v.ownBlock = some k → B ≤ k := fun k hk => (World.ownsRow.lt hown k hk).1
  refine wpList_append_own _ hgd s x 71 ho B 9 i0 (.string ByteArray.empty) 1 16 Tryd.underlying71 hi hz0 hz1 hz2 rfl (by decide) v l.length (scells l) hs (World.ownsRow.alloc hown _)
    ⟨w.heap.size, 0, none⟩ 1 c (scells [b]) hx (by simp [scells]) ?_ ?_ (by unfold maxLen; omega) (by omega) (by simp; omega) ?_
  · intro j u hj
    have hadd : (⟨w.heap.size, 0, none⟩ : Addr).add j = ⟨w.heap.size, j, none⟩ := by unfold Addr.add; split <;> simp_all
    rw [hadd, cell_of_row _ w.heap.size j #[.string ⟨b.toArray⟩] 9 (0, 0) (heap_alloc_new w _), ← hj]
    simp [scells]
  · intro u hu
    simp only [scells, List.map_cons, List.map_nil, List.mem_singleton] at hu
    subst hu
    rfl
  · intro v' w' h1 h2 _
    refine h v' w' ?_ ((hbel.alloc hB _).grown h2 (by simp; omega) hlt)
    unfold Strs
    rw [List.length_append, scells_append]
    exact h1

/-- An owned row that is not empty, written out. -/
theorem Strs.form {w : World} {B : Nat} {v : Value} {l : List (List UInt8)} (h : Strs w B v l) (hn : 0 < l.length) :
    ∃ g cap, v = .slice (some ⟨g, 0, none⟩) l.length cap ∧ B ≤ g ∧ g < w.heap.size ∧ l.length ≤ cap ∧ ∀ j (hj : j < l.length), w.cell? ⟨g, j, none⟩ = some (.string ⟨(l[j]).toArray⟩) ∧ w.frozen? ⟨g, j, none⟩ = false := by
  have h0 := h
  rcases h.2 with ⟨_, hz⟩ | ⟨g, cap, cur, rfl, hb, hg, hnc, _, _, _⟩
  · omega
  · refine ⟨g, cap, rfl, hb, (World.ownsRow.lt h0 g rfl).2, hnc, fun j hj => ⟨?_, World.ownsRow.frozenAt h0 j⟩⟩
    rw [World.ownsRow.cellAt h0 j (by omega)]
    simp [scells, hj]
end Go.Proofs.YtndebdimjlfepaaDoor

namespace Go.Proofs.YtndebdimjlfepaaDoor
open Go.RowKit Num

/-- What l2Cut leaves. -/
def CutPost (s : ByteArray) (c : UInt8) (w : World) (e : Ending) (w' : World) : Prop := ∃ v, e = .returned v ∧ Strs w' w.heap.size v (pieces c s.data.toList) ∧ Below w.heap.size w w'

/-- Where the walk stands: frm and k. -/
def CutAt (s : ByteArray) (c : UInt8) (frm k : Nat) (out : List (List UInt8)) : Prop :=
  pieces c s.data.toList = out ++ pieces c (s.data.toList.drop frm) ∧ c ∉ (s.data.toList.drop frm).take (k - frm)

theorem CutAt.start (s : ByteArray) (c : UInt8) : CutAt s c 0 0 [] := ⟨rfl, by simp⟩

theorem drop_split (s : ByteArray) (frm k : Nat) (h1 : frm ≤ k) (h2 : k < s.size) : s.data.toList.drop frm = (s.data.toList.drop frm).take (k - frm) ++ s[k] :: s.data.toList.drop (k + 1) := by
  have hl : s.data.toList.length = s.size := by simp
  have e := List.drop_eq_getElem_cons (l := s.data.toList) (i := k) (by omega)
  have h := (List.take_append_drop (k - frm) (s.data.toList.drop frm)).symm
  rw [List.drop_drop, show frm + (k - frm) = k by omega, e] at h
  exact h

theorem CutAt.hit {s : ByteArray} {c : UInt8} {frm k : Nat} {out : List (List UInt8)} (h : CutAt s c frm k out) (h1 : frm ≤ k) (h2 : k < s.size) (he : s[k] = c) :
    CutAt s c (k + 1) (k + 1) (out ++ [(s.data.toList.drop frm).take (k - frm)]) := by
  refine ⟨?_, by simp⟩
  rw [h.1]
  conv => lhs; rw [drop_split s frm k h1 h2]
  rw [he, pieces_cut c _ _ h.2]
  simp

theorem CutAt.miss {s : ByteArray} {c : UInt8} {frm k : Nat} {out : List (List UInt8)} (h : CutAt s c frm k out) (h1 : frm ≤ k) (h2 : k < s.size) (he : s[k] ≠ c) : CutAt s c frm (k + 1) out := by
  have hl : s.data.toList.length = s.size := by simp
  refine ⟨h.1, ?_⟩
  have e : (s.data.toList.drop frm).take (k + 1 - frm) = (s.data.toList.drop frm).take (k - frm) ++ [s[k]] := by
    rw [show k + 1 - frm = (k - frm) + 1 by omega, List.take_succ_eq_append_getElem (by simp; omega)]
    congr 2
    simp only [List.getElem_drop]
    have : frm + (k - frm) = k := by omega
    simp only [this]
    rfl
  rw [e]
  simp only [List.mem_append, List.mem_singleton, not_or]
  exact ⟨h.2, fun e => he e.symm⟩

theorem CutAt.done {s : ByteArray} {c : UInt8} {frm : Nat} {out : List (List UInt8)} (h : CutAt s c frm s.size out) : pieces c s.data.toList = out ++ [s.data.toList.drop frm] := by
  have hl : s.data.toList.length = s.size := by simp
  have e : (s.data.toList.drop frm).take (s.size - frm) = s.data.toList.drop frm := List.take_of_length_le (by simp)
  rw [h.1]
  have := h.2
  rw [e] at this
  rw [pieces_none c _ this]

theorem cut_len {s : ByteArray} {c : UInt8} {frm k : Nat} {out : List (List UInt8)} (h : CutAt s c frm k out) : out.length ≤ s.size := by
  have h1 := (pieces_len c s.data.toList).2
  have h2 := (pieces_len c (s.data.toList.drop frm)).1
  have hl : s.data.toList.length = s.size := by simp
  have h3 := congrArg List.length h.1
  rw [List.length_append] at h3
  omega

set_option maxRecDepth 8000 in
set_option maxHeartbeats 3200000 in
theorem spec_cut (s : ByteArray) (c : UInt8) (w : World) (hs : s.size ≤ 1048576) :
    Calls Tryd.prog 42 #[.string s, .int .u8 (c.toNat : Int)] w (CutPost s c w) := by
  have hsI : (s.size : Int) ≤ 1048576 := by omega
  go_enter Tryd.func42, Tryd.ntmps42
  go_wp2
  go_loopw [5, 6, 7] (fun v f i wr => ∃ (frm k : Nat) (out : List (List UInt8)), f = .int .i64 frm ∧ i = .int .i64 k ∧ frm ≤ k ∧ k ≤ s.size ∧ Hid (Strs wr w.heap.size v out) ∧ Hid (Below w.heap.size w wr) ∧ Hid (CutAt s c frm k out)) (fun _ _ i _ => s.size - (intOf i).toNat)
  case atStart => exact ⟨0, 0, [], rfl, rfl, Nat.le_refl _, Nat.zero_le _, Strs.lit _ _ (Nat.le_refl _), (Below.refl _ _).alloc (Nat.le_refl _) _, CutAt.start s c⟩
  case round =>
    obtain ⟨frm, k, out, rfl, rfl, hfk, hks, HS, HB, HA⟩ := hrel
    have hol := cut_len HA.out
    have hsz : w.heap.size ≤ _ := HB.out.size
    by_cases hlt : k < s.size
    · have hI1 : (frm : Int) ≤ (k : Int) := by omega
      have hI2 : (k : Int) ≤ (s.size : Int) := by omega
      have hI3 : (k : Int) < (s.size : Int) := by omega
      by_cases he : s[k] = c
      · have q : ((s[k].toNat : Int) == (c.toNat : Int)) = true := by rw [he]; simp
        have HX : Hid (s.extract frm k = ⟨((s.data.toList.drop frm).take (k - frm)).toArray⟩) := Lib.extract_eq s frm k
        have HA2 : Hid (CutAt s c (k + 1) (k + 1) (out ++ [(s.data.toList.drop frm).take (k - frm)])) := HA.out.hit hfk hlt he
        clear he
        go_wp2_with (at_builtin; refine wpList_append_text rfl _ _ rfl w.heap.size u5 out ((s.data.toList.drop frm).take (k - frm)) rfl HS.out _ (congrArg (fun b => #[Value.string b]) HX.out) _ rfl (by omega) hsz HB.out ?_; intro v' w1 hown' hbel')
        go_roundw
        case rel => exact ⟨k + 1, k + 1, _, by go_num, by go_num, by omega, by omega, hown', hbel', HA2.out⟩
        case measure => simp [intOf]; omega
      · have q : ((s[k].toNat : Int) == (c.toNat : Int)) = false := beq_eq_false_iff_ne.2 (fun e => he (UInt8.toNat_inj.1 (by omega)))
        have HA2 : Hid (CutAt s c frm (k + 1) out) := HA.out.miss hfk hlt he
        clear he
        go_wp2
        go_roundw
        case rel => exact ⟨frm, k + 1, out, rfl, by go_num, by omega, by omega, HS.out, HB.out, HA2.out⟩
        case measure => simp [intOf]; omega
    · obtain rfl : k = s.size := by omega
      have hI1 : (frm : Int) ≤ (s.size : Int) := by omega
      have HX : Hid (s.extract frm s.size = ⟨(s.data.toList.drop frm).toArray⟩) := (show _ = _ by
        rw [Lib.extract_eq]
        have e : (s.data.toList.drop frm).take (s.size - frm) = s.data.toList.drop frm := List.take_of_length_le (by simp)
        rw [e])
      have HD := Lib.hid HA.out.done
      go_wp2_with (at_builtin; refine wpList_append_text rfl _ _ rfl w.heap.size u5 out (s.data.toList.drop frm) rfl HS.out _ (congrArg (fun b => #[Value.string b]) HX.out) _ rfl (by omega) hsz HB.out ?_; intro v' w1 hown' hbel')
      go_ret
      exact ⟨v', rfl, by rw [HD.out]; exact hown', hbel'⟩
end Go.Proofs.YtndebdimjlfepaaDoor

namespace Go.Proofs.YtndebdimjlfepaaDoor
open Go Num

/-- What l4Num makes of a text. -/
def NumAns (l : List UInt8) (n : Int) : Prop := (∃ m, PIans l m true ∧ n = m) ∨ ((∀ m, ¬ PIok l m) ∧ n = -1000)

theorem numAns_itoa {n m : Int} (h : NumAns (Lib.itoa n) m) (h1 : -99 ≤ n) (h2 : n ≤ 99) : m = n := by
  have ok := PIok_small h1 h2
  rcases h with ⟨k, hk, rfl⟩ | ⟨h, _⟩
  · exact (PIans_unique hk (.inl ⟨rfl, ok⟩)).1
  · exact absurd ok (h n)

theorem numAns_rng {l : List UInt8} {n : Int} (h : NumAns l n) : -999999999 ≤ n ∧ n ≤ 999999999 := by
  rcases h with ⟨k, ⟨_, h1, h2, _⟩ | ⟨h, _⟩, rfl⟩ | ⟨_, rfl⟩
  · exact ⟨h1, h2⟩
  · cases h
  · omega

theorem pieces_mem_len (c : UInt8) : ∀ (l p : List UInt8), p ∈ pieces c l → p.length ≤ l.length
  | [], p, h => by simp [pieces] at h; subst h; simp
  | x :: l, p, h => by
    rw [pieces] at h
    split at h
    · rcases List.mem_cons.1 h with rfl | h
      · simp
      · have := pieces_mem_len c l p h; simp only [List.length_cons]; omega
    · split at h
      · next he => have := pieces_len c l; rw [he] at this; simp at this
      · next q r he =>
        rcases List.mem_cons.1 h with rfl | h
        · have := pieces_mem_len c l q (by rw [he]; simp); simp only [List.length_cons]; omega
        · have := pieces_mem_len c l p (by rw [he]; simp [h]); simp only [List.length_cons]; omega

theorem row_not2 {l : List UInt8} (h : (pieces 58 l).length ≠ 2) : PRow l 0 0 0 0 false false :=
  PRow_no fun i g y x nl hv he => h (by rw [he, pieces_fmtR hv]; rfl)
theorem row_not3 {l h0 h1 : List UInt8} (hp : pieces 58 l = [h0, h1]) (h : (pieces 44 h1).length ≠ 3) : PRow l 0 0 0 0 false false :=
  PRow_no fun i g y x nl hv he => h (by
    rw [he, pieces_fmtR hv] at hp
    simp only [List.cons.injEq, and_true] at hp
    rw [← hp.2, pieces_tailR]; rfl)
theorem row_ne {l h0 h1 : List UInt8} (hp : pieces 58 l = [h0, h1]) : l ≠ [] := by
  intro h
  rw [h] at hp
  simp [pieces] at hp

/-- What the pieces of a row's format are. -/
theorem row_parts {l h0 h1 l0 l1 l2 : List UInt8} (hp : pieces 58 l = [h0, h1]) (hq : pieces 44 h1 = [l0, l1, l2]) {i g y x : Int} {nl : Bool} (hv : rowB i g y x nl = true) (he : l = fmtR i g y x nl) :
    h0 = Lib.itoa i ∧ l0 = Lib.itoa g ∧ l1 = Lib.itoa y ∧ l2 = xT x nl := by
  rw [he, pieces_fmtR hv] at hp
  simp only [List.cons.injEq, and_true] at hp
  rw [← hp.2, pieces_tailR] at hq
  simp only [List.cons.injEq, and_true] at hq
  exact ⟨hp.1.symm, hq.1.symm, hq.2.1.symm, hq.2.2.symm⟩

theorem row_null {l h0 h1 l0 l1 : List UInt8} {n0 n1 n2 : Int} (hp : pieces 58 l = [h0, h1]) (hq : pieces 44 h1 = [l0, l1, nullW]) (a0 : NumAns h0 n0) (a1 : NumAns l0 n1) (a2 : NumAns l1 n2) (hne : l ≠ fmtR n0 n1 n2 0 true) : PRow l 0 0 0 0 false false :=
  PRow_no fun i g y x nl hv he => hne (by
    obtain ⟨b1, b2, b3, b4, b5⟩ := rowB_of hv
    obtain ⟨e0, e1, e2, e3⟩ := row_parts hp hq hv he
    rw [e0] at a0
    rw [e1] at a1
    rw [e2] at a2
    obtain rfl := numAns_itoa a0 (by omega) (by omega)
    obtain rfl := numAns_itoa a1 (by omega) (by omega)
    obtain rfl := numAns_itoa a2 (by omega) (by omega)
    cases nl
    · exact absurd e3.symm (by unfold xT; simpa using itoa_null x)
    · rw [he, b5 rfl])

theorem row_num {l h0 h1 l0 l1 l2 : List UInt8} {n0 n1 n2 n3 : Int} (hp : pieces 58 l = [h0, h1]) (hq : pieces 44 h1 = [l0, l1, l2]) (hn : l2 ≠ nullW) (a0 : NumAns h0 n0) (a1 : NumAns l0 n1) (a2 : NumAns l1 n2) (a3 : NumAns l2 n3) (hne : l ≠ fmtR n0 n1 n2 n3 false) : PRow l 0 0 0 0 false false :=
  PRow_no fun i g y x nl hv he => hne (by
    obtain ⟨b1, b2, b3, b4, b5⟩ := rowB_of hv
    obtain ⟨e0, e1, e2, e3⟩ := row_parts hp hq hv he
    rw [e0] at a0
    rw [e1] at a1
    rw [e2] at a2
    rw [e3] at a3 hn
    obtain rfl := numAns_itoa a0 (by omega) (by omega)
    obtain rfl := numAns_itoa a1 (by omega) (by omega)
    obtain rfl := numAns_itoa a2 (by omega) (by omega)
    cases nl
    · obtain rfl := numAns_itoa (show NumAns (Lib.itoa x) n3 from by simpa [xT] using a3) (by omega) (by omega)
      exact he
    · exact absurd rfl hn)
end Go.Proofs.YtndebdimjlfepaaDoor

namespace Go.Proofs.YtndebdimjlfepaaDoor
open Go.RowKit

theorem cell_set5_some {w : World} {a : Addr} {v9 : Value} {g : Nat} (x y u v z : Value) (h : w.cell? a = some v9) (hne : a.block ≠ g) : (((((w.setCell ⟨g, 0, none⟩ x).setCell ⟨g, 1, none⟩ y).setCell ⟨g, 2, none⟩ u).setCell ⟨g, 3, none⟩ v).setCell ⟨g, 4, none⟩ z).cell? a = some v9 := by
  rw [World.cell?_setCell_other (w := (((w.setCell ⟨g, 0, none⟩ x).setCell ⟨g, 1, none⟩ y).setCell ⟨g, 2, none⟩ u).setCell ⟨g, 3, none⟩ v) (a := ⟨g, 4, none⟩) (b := a) (v := z) (fun e => hne (by rw [← e]))]
  exact cell_set4_some x y u v h hne
theorem c3_alloc {w : World} {a0 a1 a2 : Addr} {v0 v1 v2 : Value} {o : Obj} (h : w.cell? a0 = some v0 ∧ w.cell? a1 = some v1 ∧ w.cell? a2 = some v2) : (w.alloc o).cell? a0 = some v0 ∧ (w.alloc o).cell? a1 = some v1 ∧ (w.alloc o).cell? a2 = some v2 :=
  ⟨cell_alloc_some o h.1, cell_alloc_some o h.2.1, cell_alloc_some o h.2.2⟩
theorem c3_adrew {w : World} {a0 a1 a2 : Addr} {v0 v1 v2 : Value} {o : Obj} (h : w.cell? a0 = some v0 ∧ w.cell? a1 = some v1 ∧ w.cell? a2 = some v2) : (w.alloc o).drew.cell? a0 = some v0 ∧ (w.alloc o).drew.cell? a1 = some v1 ∧ (w.alloc o).drew.cell? a2 = some v2 := c3_alloc h
theorem c3_set5 {w : World} {a0 a1 a2 : Addr} {v0 v1 v2 x y u v z : Value} {g : Nat} (h : w.cell? a0 = some v0 ∧ w.cell? a1 = some v1 ∧ w.cell? a2 = some v2) (h0 : a0.block ≠ g) (h1 : a1.block ≠ g) (h2 : a2.block ≠ g) :
    (((((w.setCell ⟨g, 0, none⟩ x).setCell ⟨g, 1, none⟩ y).setCell ⟨g, 2, none⟩ u).setCell ⟨g, 3, none⟩ v).setCell ⟨g, 4, none⟩ z).cell? a0 = some v0 ∧ (((((w.setCell ⟨g, 0, none⟩ x).setCell ⟨g, 1, none⟩ y).setCell ⟨g, 2, none⟩ u).setCell ⟨g, 3, none⟩ v).setCell ⟨g, 4, none⟩ z).cell? a1 = some v1 ∧ (((((w.setCell ⟨g, 0, none⟩ x).setCell ⟨g, 1, none⟩ y).setCell ⟨g, 2, none⟩ u).setCell ⟨g, 3, none⟩ v).setCell ⟨g, 4, none⟩ z).cell? a2 = some v2 :=
  ⟨cell_set5_some x y u v z h.1 h0, cell_set5_some x y u v z h.2.1 h1, cell_set5_some x y u v z h.2.2 h2⟩

/-- Five stores into the five cells of a block that lies apart from all others kept. -/
theorem Kept.set5 {W w : World} {g : Nat} {v0 v1 v2 v3 v4 : Value} {l : List (Addr × Value)} (h : Kept W w ((⟨g, 0, none⟩, v0) :: (⟨g, 1, none⟩, v1) :: (⟨g, 2, none⟩, v2) :: (⟨g, 3, none⟩, v3) :: (⟨g, 4, none⟩, v4) :: l)) (x y u v z : Value) (hW : W.heap.size ≤ g) (hl : ∀ c ∈ l, c.1.block ≠ g) :
    Kept W (((((w.setCell ⟨g, 0, none⟩ x).setCell ⟨g, 1, none⟩ y).setCell ⟨g, 2, none⟩ u).setCell ⟨g, 3, none⟩ v).setCell ⟨g, 4, none⟩ z) ((⟨g, 0, none⟩, x) :: (⟨g, 1, none⟩, y) :: (⟨g, 2, none⟩, u) :: (⟨g, 3, none⟩, v) :: (⟨g, 4, none⟩, z) :: l) := by
  have ne : ∀ j, ∀ c ∈ l, c.1 ≠ ⟨g, j, none⟩ := fun j c hc e => hl c hc (by rw [e])
  have h1 := Kept.set (p := []) h x hW (by
    intro c hc
    simp only [List.nil_append, List.mem_cons] at hc
    rcases hc with rfl | rfl | rfl | rfl | hc
    · simp
    · simp
    · simp
    · simp
    · exact ne 0 c hc)
  have h2 := Kept.set (p := [(⟨g, 0, none⟩, x)]) h1 y hW (by
    intro c hc
    simp only [List.cons_append, List.nil_append, List.mem_cons] at hc
    rcases hc with rfl | rfl | rfl | rfl | hc
    · simp
    · simp
    · simp
    · simp
    · exact ne 1 c hc)
  have h3 := Kept.set (p := [(⟨g, 0, none⟩, x), (⟨g, 1, none⟩, y)]) h2 u hW (by
    intro c hc
    simp only [List.cons_append, List.nil_append, List.mem_cons] at hc
    rcases hc with rfl | rfl | rfl | rfl | hc
    · simp
    · simp
    · simp
    · simp
    · exact ne 2 c hc)
  have h4 := Kept.set (p := [(⟨g, 0, none⟩, x), (⟨g, 1, none⟩, y), (⟨g, 2, none⟩, u)]) h3 v hW (by
    intro c hc
    simp only [List.cons_append, List.nil_append, List.mem_cons] at hc
    rcases hc with rfl | rfl | rfl | rfl | hc
    · simp
    · simp
    · simp
    · simp
    · exact ne 3 c hc)
  exact Kept.set (p := [(⟨g, 0, none⟩, x), (⟨g, 1, none⟩, y), (⟨g, 2, none⟩, u), (⟨g, 3, none⟩, v)]) h4 z hW (by
    intro c hc
    simp only [List.cons_append, List.nil_append, List.mem_cons] at hc
    rcases hc with rfl | rfl | rfl | rfl | hc
    · simp
    · simp
    · simp
    · simp
    · exact ne 4 c hc)
end Go.Proofs.YtndebdimjlfepaaDoor
