/-
  Plain mathematics of tables: when one is valid; its format.
-/
import Derived.Test.YtcfcohnkkgickaaRows
import Derived.Test.YtcfcohnkkgickaaBkPlain
import Derived.Test.YtcfcohnkkgickaaTbFind
namespace Go.Proofs.Ytcfcohnkkgickaa
open Go Num

/-- No row ID stands in two blocks. -/
def UniqR (l : List Blk) (n : Nat) : Prop := ∀ k, k < n → ∀ i, i < k → ∀ x, HasRow (Bn l k).rows x → ¬ HasRow (Bn l i).rows x
/-- Block number k is valid. -/
def bkB (l : List Blk) (k : Nat) : Bool := blkB (Bn l k).id (Bn l k).rows.length (Rn (Bn l k).rows)
/-- The first n blocks are valid and their IDs ascend. -/
def BlksOk (l : List Blk) (n : Nat) : Prop := (∀ k, k < n → bkB l k = true) ∧ ∀ k, k + 1 < n → (Bn l k).id < (Bn l (k + 1)).id
/-- When a table is valid. -/
def TblOk (ver : Int) (l : List Blk) (n : Nat) : Prop := (0 ≤ ver ∧ ver ≤ 99) ∧ n ≤ 6 ∧ BlksOk l n ∧ UniqR l n

theorem BlksOk.zero (l : List Blk) : BlksOk l 0 := ⟨fun k hk => by omega, fun k hk => by omega⟩
theorem BlksOk.succ {l : List Blk} {k : Nat} (h : BlksOk l k) (hv : bkB l k = true) (ho : ∀ j, j + 1 = k → (Bn l j).id < (Bn l (j + 1)).id) : BlksOk l (k + 1) :=
  ⟨fun j hj => by
    by_cases e : j < k
    · exact h.1 j e
    · obtain rfl : j = k := by omega
      exact hv, fun j hj => by
    by_cases e : j + 1 < k
    · exact h.2 j e
    · exact ho j (by omega)⟩
theorem BlksOk.low {l : List Blk} {n k : Nat} (h : BlksOk l n) (hk : k ≤ n) : BlksOk l k := ⟨fun j hj => h.1 j (by omega), fun j hj => h.2 j (by omega)⟩
theorem UniqR.zero (l : List Blk) : UniqR l 0 := fun k hk => by omega
theorem UniqR.succ {l : List Blk} {k : Nat} (h : UniqR l k) (hn : ∀ i, i < k → ∀ x, HasRow (Bn l k).rows x → ¬ HasRow (Bn l i).rows x) : UniqR l (k + 1) := fun j hj => by
  by_cases e : j < k
  · exact h j e
  · obtain rfl : j = k := by omega
    exact hn

/-- A block's format. -/
def Blk.fmt (b : Blk) : List UInt8 := fmtB b.id b.rows.length (Rn b.rows)
/-- The blocks' formats, each behind a semicolon. -/
def fmtBlks (l : List Blk) : Nat → List UInt8
  | 0 => []
  | k + 1 => fmtBlks l k ++ 59 :: (Bn l k).fmt
open Classical in
/-- The format of a table. -/
noncomputable def fmtT (ver : Int) (l : List Blk) : List UInt8 := if TblOk ver l l.length then 118 :: (Lib.itoa ver ++ fmtBlks l l.length) else []
theorem fmtT_no {ver : Int} {l : List Blk} (h : ¬ TblOk ver l l.length) : fmtT ver l = [] := by unfold fmtT; rw [if_neg h]
theorem fmtT_yes {ver : Int} {l : List Blk} (h : TblOk ver l l.length) : fmtT ver l = 118 :: (Lib.itoa ver ++ fmtBlks l l.length) := by unfold fmtT; rw [if_pos h]

theorem fmtB_len {id : Int} {n : Nat} {R : Nat → Rw} : (fmtB id n R).length ≤ 1000 := by
  cases h : blkB id n R
  · rw [fmtB_no h]; simp
  · obtain ⟨⟨i1, i2⟩, _, h6⟩ := blkB_of h
    have li := Lib.itoa_length_le id (by omega) (by omega)
    have lr : ∀ n, (fmtRows R n).length ≤ n * 131 := fun n => by
      induction n with
      | zero => exact Nat.le_refl _
      | succ k ih =>
        have := fmtR_len (i := (R k).i) (g := (R k).g) (y := (R k).y) (x := (R k).x) (nl := (R k).nl)
        show (fmtRows R k ++ 32 :: (R k).fmt).length ≤ _
        unfold Rw.fmt
        simp only [List.length_append, List.length_cons]
        omega
    have := lr n
    rw [fmtB_yes h]
    simp only [List.length_append, List.length_cons]
    omega

theorem itoa_semi (n : Int) : (59 : UInt8) ∉ Lib.itoa n := itoa_not (by decide) (by unfold isD; decide) n
theorem fmtR_semi (r : Rw) : (59 : UInt8) ∉ r.fmt := by
  unfold Rw.fmt
  cases h : rowB r.i r.g r.y r.x r.nl
  · rw [fmtR_no h]; simp
  · rw [fmtR_yes h]
    simp only [List.mem_append, List.mem_cons, not_or]
    refine ⟨itoa_semi _, by decide, itoa_semi _, by decide, itoa_semi _, by decide, ?_⟩
    unfold xT nullW
    split
    · decide
    · exact itoa_semi _
theorem fmtRows_semi (R : Nat → Rw) : ∀ n : Nat, (59 : UInt8) ∉ fmtRows R n
  | 0 => by show _ ∉ []; simp
  | n + 1 => by
    show _ ∉ fmtRows R n ++ 32 :: (R n).fmt
    simp only [List.mem_append, List.mem_cons, not_or]
    exact ⟨fmtRows_semi R n, by decide, fmtR_semi _⟩
theorem fmtB_semi (b : Blk) : (59 : UInt8) ∉ b.fmt := by
  unfold Blk.fmt
  cases h : blkB b.id b.rows.length (Rn b.rows)
  · rw [fmtB_no h]; simp
  · rw [fmtB_yes h]
    simp only [List.mem_append, List.mem_cons, not_or]
    exact ⟨by decide, itoa_semi _, fmtRows_semi _ _⟩

theorem fmtBlks_flat (l : List Blk) : ∀ n, n ≤ l.length → fmtBlks l n = ((l.take n).map fun b => 59 :: b.fmt).flatten
  | 0, _ => rfl
  | n + 1, h => by
    rw [List.take_add_one, List.getElem?_eq_getElem (by omega), List.map_append, List.flatten_append, ← fmtBlks_flat l n (by omega)]
    show fmtBlks l n ++ 59 :: (Bn l n).fmt = _
    rw [Bn_at (by omega)]
    simp
theorem pieces_all (c : UInt8) : ∀ (ps : List (List UInt8)) (h : List UInt8), c ∉ h → (∀ p ∈ ps, c ∉ p) → pieces c (h ++ (ps.map fun p => c :: p).flatten) = h :: ps
  | [], h, hh, _ => by simp only [List.map_nil, List.flatten_nil, List.append_nil]; exact pieces_none c h hh
  | p :: ps, h, hh, hp => by
    simp only [List.map_cons, List.flatten_cons, List.cons_append]
    rw [pieces_cut c h _ hh, pieces_all c ps p (hp p (by simp)) (fun q hq => hp q (by simp [hq]))]

theorem pieces_fmtT {ver : Int} {l : List Blk} (h : TblOk ver l l.length) : pieces 59 (fmtT ver l) = (118 :: Lib.itoa ver) :: l.map Blk.fmt := by
  rw [fmtT_yes h, fmtBlks_flat l _ (Nat.le_refl _), List.take_length]
  have := pieces_all 59 (l.map Blk.fmt) (118 :: Lib.itoa ver) (by simp only [List.mem_cons, not_or]; exact ⟨by decide, itoa_semi _⟩) (fun p hp => by
    obtain ⟨b, _, rfl⟩ := List.mem_map.1 hp
    exact fmtB_semi b)
  rw [List.map_map] at this
  exact this
theorem blkFmt_unique {b b' : Blk} (h : blkB b.id b.rows.length (Rn b.rows) = true) (h' : blkB b'.id b'.rows.length (Rn b'.rows) = true) (e : b.fmt = b'.fmt) : b = b' := by
  obtain ⟨e1, e2, e3⟩ := fmtB_unique h h' e
  cases b with | mk i r => cases b' with | mk i' r' =>
  simp only at e1 e2 e3
  subst e1
  congr 1
  refine List.ext_getElem e2 fun k h1 h2 => ?_
  rw [← Rn_at h1, ← Rn_at h2]
  exact e3 k h1
theorem TblOk.blk {ver : Int} {l : List Blk} (h : TblOk ver l l.length) {k : Nat} (hk : k < l.length) : blkB l[k].id l[k].rows.length (Rn l[k].rows) = true := by
  have := h.2.2.1.1 k hk
  unfold bkB at this
  rwa [Bn_at hk] at this

/-- Two valid tables of one format are one. -/
theorem fmtT_unique {ver ver' : Int} {l l' : List Blk} (h : TblOk ver l l.length) (h' : TblOk ver' l' l'.length) (he : fmtT ver l = fmtT ver' l') : ver = ver' ∧ l = l' := by
  have p := pieces_fmtT h
  rw [he, pieces_fmtT h'] at p
  simp only [List.cons.injEq, true_and] at p
  obtain ⟨p1, p2⟩ := p
  refine ⟨PIok_unique (PIok_small (by have := h.1; omega) (by have := h.1; omega)) (by rw [← p1]; exact PIok_small (by have := h'.1; omega) (by have := h'.1; omega)), ?_⟩
  have e2 : l'.length = l.length := by have := congrArg List.length p2; simpa using this
  refine List.ext_getElem e2.symm fun k h1 h2 => ?_
  have q := congrArg (fun l => l[k]?) p2
  simp only [List.getElem?_map, List.getElem?_eq_getElem h1, List.getElem?_eq_getElem h2, Option.map_some, Option.some.injEq] at q
  exact (blkFmt_unique (h'.blk h2) (h.blk h1) q).symm

/-- What ParseTable answers. -/
def PTbl (t : List UInt8) (ver : Int) (l : List Blk) (ok : Bool) : Prop := (ok = true ∧ TblOk ver l l.length ∧ t = fmtT ver l) ∨ (ok = false ∧ ver = 0 ∧ l = [] ∧ ∀ ver' l', TblOk ver' l' l'.length → t ≠ fmtT ver' l')
theorem PTbl_unique {t : List UInt8} {ver ver' : Int} {l l' : List Blk} {ok ok' : Bool} (h : PTbl t ver l ok) (h' : PTbl t ver' l' ok') : ver = ver' ∧ l = l' ∧ ok = ok' := by
  rcases h with ⟨rfl, h, e⟩ | ⟨rfl, rfl, rfl, h⟩ <;> rcases h' with ⟨rfl, h', e'⟩ | ⟨rfl, rfl, rfl, h'⟩
  · obtain ⟨r1, r2⟩ := fmtT_unique h h' (by rw [← e, ← e'])
    exact ⟨r1, r2, rfl⟩
  · exact absurd e (h' _ _ h)
  · exact absurd e' (h _ _ h')
  · exact ⟨rfl, rfl, rfl⟩
theorem PTbl.len {t : List UInt8} {ver : Int} {l : List Blk} {ok : Bool} (h : PTbl t ver l ok) : l.length ≤ 6 := by
  rcases h with ⟨_, h, _⟩ | ⟨_, _, rfl, _⟩
  · exact h.2.1
  · simp
theorem PTbl.rows {t : List UInt8} {ver : Int} {l : List Blk} {ok : Bool} (h : PTbl t ver l ok) : ∀ k (hk : k < l.length), l[k].rows.length ≤ 6 := fun k hk => by
  rcases h with ⟨_, h, _⟩ | ⟨_, _, rfl, _⟩
  · exact (blkB_of (h.blk hk)).2.2
  · simp at hk
end Go.Proofs.Ytcfcohnkkgickaa
