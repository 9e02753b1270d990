/-
  Plain mathematics of a table read from the pieces of a text.
-/
import Derived.Test.YtndebdimjlfepaaDoorRows
import Derived.Test.YtndebdimjlfepaaDoorTtPlain
import Derived.Test.YtndebdimjlfepaaDoorPsPlain
namespace Go.Proofs.YtndebdimjlfepaaDoor
open Go Num

/-- A block read from a text. -/
def RdBlk (t : List UInt8) (b : Blk) (ok : Bool) : Prop := PBlk t b.id b.rows.length (Rn b.rows) ok
theorem rdBlk_fmt {b b' : Blk} {ok : Bool} (h : RdBlk b'.fmt b ok) (hv : blkB b'.id b'.rows.length (Rn b'.rows) = true) : b = b' ∧ ok = true := by
  obtain ⟨e1, e2, e3, e4⟩ := PBlk_unique h (.inl ⟨rfl, hv, rfl⟩)
  refine ⟨?_, e3⟩
  cases b with | mk i r => cases b' with | mk i' r' =>
  simp only at e1 e2 e4
  subst e1
  congr 1
  refine List.ext_getElem e2 fun k h1 h2 => ?_
  rw [← Rn_at h1, ← Rn_at h2]
  exact e4 k h1
theorem rdBlk_yes {t : List UInt8} {b : Blk} (h : RdBlk t b true) : t = b.fmt := by
  rcases h with ⟨_, _, h⟩ | ⟨h, _⟩
  · exact h
  · cases h
theorem rdBlk_bad {t : List UInt8} {b : Blk} (h : RdBlk t b false) : ∀ b' : Blk, blkB b'.id b'.rows.length (Rn b'.rows) = true → t ≠ b'.fmt := fun b' hv e => by
  rw [e] at h
  have := (rdBlk_fmt h hv).2
  cases this

/-- No table has this text. -/
def NoTbl (l : List UInt8) : Prop := ∀ ver T, TblOk ver T T.length → l ≠ fmtT ver T
theorem tp_short {l p0 : List UInt8} {ps : List (List UInt8)} (hp : pieces 59 l = p0 :: ps) (h : p0.length < 2) : NoTbl l := fun ver T hv he => by
  rw [he, pieces_fmtT hv] at hp
  simp only [List.cons.injEq] at hp
  rw [← hp.1] at h
  have h0 : (Lib.itoa ver).length ≠ 0 := fun e => itoa_ne ver (List.eq_nil_of_length_eq_zero e)
  simp only [List.length_cons] at h
  omega
theorem tp_many {l p0 : List UInt8} {ps : List (List UInt8)} (hp : pieces 59 l = p0 :: ps) (h : 6 < ps.length) : NoTbl l := fun ver T hv he => by
  rw [he, pieces_fmtT hv] at hp
  simp only [List.cons.injEq] at hp
  have := hv.2.1
  rw [← hp.2] at h
  simp at h
  omega
theorem tp_piece {l p0 : List UInt8} {ps : List (List UInt8)} (hp : pieces 59 l = p0 :: ps) {ver : Int} {T : List Blk} (hv : TblOk ver T T.length) (he : l = fmtT ver T) : p0 = 118 :: Lib.itoa ver ∧ T.length = ps.length ∧ ∀ k (hk : k < ps.length) (hk' : k < T.length), ps[k] = T[k].fmt := by
  rw [he, pieces_fmtT hv] at hp
  simp only [List.cons.injEq] at hp
  refine ⟨hp.1.symm, by rw [← hp.2]; simp, fun k hk hk' => ?_⟩
  have q := congrArg (fun l => l[k]?) hp.2
  simp only [List.getElem?_map, List.getElem?_eq_getElem hk', List.getElem?_eq_getElem hk, Option.map_some, Option.some.injEq] at q
  exact q.symm
/-- A piece that is no block. -/
theorem tp_bad {l p0 : List UInt8} {ps : List (List UInt8)} (hp : pieces 59 l = p0 :: ps) {k : Nat} (hk : k < ps.length) {b : Blk} (h : RdBlk ps[k] b false) : NoTbl l := fun ver T hv he => by
  obtain ⟨_, e2, e3⟩ := tp_piece hp hv he
  have hk' : k < T.length := by omega
  exact rdBlk_bad h T[k] (hv.blk hk') (e3 k hk hk')
/-- The table read is the one, or there is none. -/
theorem tp_no {l p0 : List UInt8} {ps : List (List UInt8)} (hp : pieces 59 l = p0 :: ps) {d : Int} (hd : NumAns (p0.drop 1) d) {L : List Blk} (hL : L.length = ps.length) (hr : ∀ k (hk : k < ps.length) (hk' : k < L.length), ∃ ok, RdBlk ps[k] L[k] ok) (hne : l ≠ fmtT d L) : NoTbl l := fun ver T hv he => hne (by
  obtain ⟨e1, e2, e3⟩ := tp_piece hp hv he
  have ed : d = ver := by
    rw [e1] at hd
    have := hv.1
    exact numAns_itoa (by simpa using hd) (by omega) (by omega)
  have eL : L = T := by
    refine List.ext_getElem (by omega) fun k h1 h2 => ?_
    obtain ⟨ok, h⟩ := hr k (by omega) h1
    rw [e3 k (by omega) h2] at h
    exact (rdBlk_fmt h (hv.blk h2)).1
  rw [he, ed, eL])

theorem blkTexts_all {ps : List (List UInt8)} {L : List Blk} (hL : L.length = ps.length) (hr : ∀ k (hk : k < ps.length) (hk' : k < L.length), RdBlk ps[k] L[k] true) : ps = L.map Blk.fmt := by
  refine List.ext_getElem (by rw [List.length_map]; exact hL.symm) fun k h1 h2 => ?_
  rw [List.getElem_map]
  exact rdBlk_yes (hr k h1 (by omega))
/-- A table is read. -/
theorem tpk_yes {l p0 d : List UInt8} {ps : List (List UInt8)} {n : Int} {L : List Blk} (hp : pieces 59 l = p0 :: ps) (hm : Mark 118 p0 d true) (hi : PIans d n true) (hL : L.length = ps.length) (hr : ∀ k (hk : k < ps.length) (hk' : k < L.length), RdBlk ps[k] L[k] true) (hv : TblOk n L L.length) : PTbl l n L true := by
  refine .inl ⟨rfl, hv, ?_⟩
  obtain ⟨_, rfl⟩ | ⟨h, _⟩ := hm
  · rw [fmtT_yes hv, pieces_join 59 l _ ps hp, fmtBlks_flat L _ (Nat.le_refl _), List.take_length, PIans_eq hi, blkTexts_all hL hr, List.map_map]
    rfl
  · cases h
theorem tpk_unmarked {l p0 d : List UInt8} {ps : List (List UInt8)} (hp : pieces 59 l = p0 :: ps) (hm : Mark 118 p0 d false) : NoTbl l := fun ver T hv he => by
  obtain ⟨e1, _⟩ := tp_piece hp hv he
  rcases hm with ⟨h, _⟩ | ⟨_, h⟩
  · cases h
  · exact h _ e1
theorem tpk_badnum {l p0 d : List UInt8} {ps : List (List UInt8)} {n0 : Int} (hp : pieces 59 l = p0 :: ps) (hm : Mark 118 p0 d true) (hi : PIans d n0 false) : NoTbl l := fun ver T hv he => by
  obtain ⟨e1, _⟩ := tp_piece hp hv he
  have hr := hv.1
  rcases hm with ⟨_, h⟩ | ⟨h, _⟩
  · rw [h] at e1
    simp only [List.cons.injEq, true_and] at e1
    rw [e1] at hi
    have := (PIans_at hi (by omega) (by omega)).1
    cases this
  · cases h
theorem tpk_invalid {l p0 d : List UInt8} {ps : List (List UInt8)} {n : Int} {L : List Blk} (hp : pieces 59 l = p0 :: ps) (hm : Mark 118 p0 d true) (hi : PIans d n true) (hL : L.length = ps.length) (hr : ∀ k (hk : k < ps.length) (hk' : k < L.length), RdBlk ps[k] L[k] true) (hv : ¬ TblOk n L L.length) : NoTbl l := by
  obtain ⟨_, rfl⟩ | ⟨h, _⟩ := hm
  · refine tp_no hp (d := n) (Or.inl ⟨n, hi, rfl⟩) hL (fun k hk hk' => ⟨true, hr k hk hk'⟩) ?_
    rw [fmtT_no hv]
    intro e
    rw [e] at hp
    simp [pieces] at hp
  · cases h
/-- A text with a semicolon in it is no block. -/
theorem blk_semi {t : List UInt8} (h : (59 : UInt8) ∈ t) {b : Blk} (hr : RdBlk t b true) : False := by
  rw [rdBlk_yes hr] at h
  exact fmtB_semi b h
theorem cutT_no {l p0 : List UInt8} {ps : List (List UInt8)} (h7 : Cut7 59 l (p0 :: ps)) (h : pieces 59 l = p0 :: ps → NoTbl l) : NoTbl l := by
  rcases h7 with e | ⟨hm, _⟩
  · exact h e.symm
  · cases hp : pieces 59 l with
    | nil => rw [hp] at hm; simp at hm
    | cons q0 qs => rw [hp] at hm; exact tp_many hp (by simp only [List.length_cons] at hm; omega)
theorem cutT_ok {l p0 : List UInt8} {ps : List (List UInt8)} (h7 : Cut7 59 l (p0 :: ps)) {L : List Blk} (hL : L.length = ps.length) (hr : ∀ k (hk : k < ps.length) (hk' : k < L.length), RdBlk ps[k] L[k] true) : pieces 59 l = p0 :: ps := by
  rcases h7 with e | ⟨_, hl, x, hx, hs⟩
  · exact e.symm
  · simp only [List.length_cons] at hl
    have h5 : 5 < ps.length := by omega
    have e : x = ps[5] := by simpa [List.getElem?_eq_getElem h5] using hx.symm
    have h1 := hr 5 h5 (by omega)
    rw [← e] at h1
    exact (blk_semi hs h1).elim
end Go.Proofs.YtndebdimjlfepaaDoor
