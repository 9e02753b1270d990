/-
  Plain mathematics of the map from row IDs to the blocks in which they stand.
-/
import Derived.Test.YtcfcohnkkgickaaDoorRows
import Derived.Test.YtcfcohnkkgickaaDoorTtPlain
import Derived.Maps.OwnRows
import Derived.Maps.RangeWalk
namespace Go.Proofs.YtcfcohnkkgickaaDoor
open Go Num Go.Maps Go.ChangeShapes

/-- The second parts of the pairs whose first is x, in their order. -/
def sel : List (Int × Int) → Int → List Int
  | [], _ => []
  | p :: ps, x => if p.1 = x then p.2 :: sel ps x else sel ps x
theorem sel_app (x : Int) : ∀ ps qs, sel (ps ++ qs) x = sel ps x ++ sel qs x
  | [], _ => rfl
  | p :: ps, qs => by
    rw [List.cons_append, sel, sel, sel_app x ps qs]
    split <;> rfl
theorem sel_one (a b x : Int) : sel [(a, b)] x = if a = x then [b] else [] := rfl
theorem sel_len (x : Int) : ∀ ps, (sel ps x).length ≤ ps.length
  | [] => Nat.le_refl _
  | p :: ps => by
    have := sel_len x ps
    rw [sel]
    split <;> simp only [List.length_cons] <;> omega

/-- What a map of slices reads as that holds the pairs. -/
def GrpAt {H : Type} (D : DataW H) (ps : List (Int × Int)) : Prop :=
  IsMap D ∧ ∀ x, (sel ps x = [] → has D (.int .i64 x) = false) ∧ (sel ps x ≠ [] → ∀ zd, D.atKey (.int .i64 x) zd = .slice (lits .i64 (sel ps x)) [])
theorem GrpAt.start {H : Type} : GrpAt (.map [] : DataW H) [] := ⟨isMap_empty, fun x => ⟨fun _ => rfl, fun h => absurd rfl h⟩⟩
theorem lits_inj {H : Type} {a b : List Int} (h : lits (H := H) .i64 a = lits .i64 b) : a = b :=
  (List.map_inj_right (fun x y hxy => by simpa using hxy)).1 h
/-- What is read at a key. -/
theorem GrpAt.read {H : Type} {D : DataW H} {ps : List (Int × Int)} (h : GrpAt D ps) {w : World} {base : Nat} {e : TypeId} {v : Value} {zs : List Int} {x : Int} (ho : w.ownsInts base e .i64 v zs) (hat : D.atKey (.int .i64 x) .nil = rowDatum .i64 v zs) : zs = sel ps x := by
  obtain ⟨h1, h2⟩ := h.2 x
  by_cases hs : sel ps x = []
  · rw [hs]
    rw [atKey_of_not_has (h1 hs)] at hat
    rcases ho.datum (H := H) with ⟨_, hz⟩ | hd
    · exact hz
    · rw [hd] at hat; cases hat
  · rw [h2 hs] at hat
    rcases ho.datum (H := H) with ⟨hd, _⟩ | hd
    · rw [hd] at hat; cases hat
    · rw [hd] at hat
      exact (lits_inj (by simpa using hat)).symm
theorem GrpAt.put {H : Type} {D : DataW H} {ps : List (Int × Int)} (h : GrpAt D ps) {w' : World} {base : Nat} {e : TypeId} {v' : Value} {zs : List Int} {x a : Int} (hz : zs = sel ps x) (ho : w'.ownsInts base e .i64 v' (zs ++ [a])) : GrpAt (D.put (.int .i64 x) (rowDatum .i64 v' (zs ++ [a]))) (ps ++ [(x, a)]) := by
  subst hz
  rw [ho.datum_pos (by simp)]
  refine ⟨h.1.put _ _, fun y => ?_⟩
  rw [sel_app, sel_one]
  by_cases e : x = y
  · subst e
    rw [if_pos rfl]
    exact ⟨fun hn => by simp at hn, fun _ zd => atKey_put_same h.1 (show WideAt.IsKeyLit (.int .i64 x) from trivial) _ _⟩
  · rw [if_neg e, List.append_nil]
    have hne : (Lit.int .i64 y) ≠ .int .i64 x := fun h => e (by cases h; rfl)
    exact ⟨fun hn => by rw [has_put_other hne]; exact (h.2 y).1 hn, fun hn zd => by rw [atKey_put_other hne]; exact (h.2 y).2 hn zd⟩

/-- The pairs of the first j rows of block k. -/
def rowPairs (rs : List Rw) (k : Int) : Nat → List (Int × Int)
  | 0 => []
  | j + 1 => rowPairs rs k j ++ [((Rn rs j).i, k)]
/-- The pairs of the first k blocks. -/
def blkPairs (l : List Blk) : Nat → List (Int × Int)
  | 0 => []
  | k + 1 => blkPairs l k ++ rowPairs (Bn l k).rows k (Bn l k).rows.length
theorem rowPairs_len (rs : List Rw) (k : Int) : ∀ j, (rowPairs rs k j).length = j
  | 0 => rfl
  | j + 1 => by rw [rowPairs, List.length_append, rowPairs_len rs k j]; rfl
theorem blkPairs_len (l : List Blk) {n : Nat} (hr : ∀ k, k < n → (Bn l k).rows.length ≤ 1048576) : ∀ k, k ≤ n → (blkPairs l k).length ≤ k * 1048576
  | 0, _ => Nat.le_refl _
  | k + 1, h => by
    have := blkPairs_len l hr k (by omega)
    have := hr k (by omega)
    rw [blkPairs, List.length_append, rowPairs_len]
    omega

/-- The block's own share at x. -/
theorem sel_rows (rs : List Rw) (k x : Int) : ∀ j, ∀ a ∈ sel (rowPairs rs k j) x, a = k
  | 0, a, h => by cases h
  | j + 1, a, h => by
    rw [rowPairs, sel_app, sel_one] at h
    rcases List.mem_append.1 h with h | h
    · exact sel_rows rs k x j a h
    · split at h
      · simpa using h
      · cases h
theorem sel_rows_nil (rs : List Rw) (k x : Int) : ∀ j, sel (rowPairs rs k j) x = [] ↔ ∀ i, i < j → (Rn rs i).i ≠ x
  | 0 => ⟨fun _ i hi => by omega, fun _ => rfl⟩
  | j + 1 => by
    rw [rowPairs, sel_app, sel_one, List.append_eq_nil_iff, sel_rows_nil rs k x j]
    constructor
    · rintro ⟨h1, h2⟩ i hi
      by_cases e : i < j
      · exact h1 i e
      · obtain rfl : i = j := by omega
        intro e2
        rw [if_pos e2] at h2
        cases h2
    · intro h
      exact ⟨fun i hi => h i (by omega), by rw [if_neg (h j (by omega))]⟩
theorem sel_rows_has (rs : List Rw) (k x : Int) : sel (rowPairs rs k rs.length) x = [] ↔ ¬ HasRow rs x := by
  rw [sel_rows_nil]
  exact ⟨fun h ⟨j, hj, e⟩ => h j hj e, fun h i hi e => h ⟨i, hi, e⟩⟩
theorem sel_blks_nil (l : List Blk) (x : Int) : ∀ n, sel (blkPairs l n) x = [] ↔ ∀ i, i < n → ¬ HasRow (Bn l i).rows x
  | 0 => ⟨fun _ i hi => by omega, fun _ => rfl⟩
  | n + 1 => by
    rw [blkPairs, sel_app, List.append_eq_nil_iff, sel_blks_nil l x n, sel_rows_has]
    constructor
    · rintro ⟨h1, h2⟩ i hi
      by_cases e : i < n
      · exact h1 i e
      · obtain rfl : i = n := by omega
        exact h2
    · intro h
      exact ⟨fun i hi => h i (by omega), h n (by omega)⟩

/-- The first block in which x stands. -/
theorem sel_first (l : List Blk) (x : Int) : ∀ n, FirstAns (fun k => HasRow (Bn l k).rows x) n (match sel (blkPairs l n) x with | [] => -1 | a :: _ => a)
  | 0 => .inr ⟨fun j hj => by omega, rfl⟩
  | n + 1 => by
    have ih := sel_first l x n
    rw [blkPairs, sel_app]
    cases hs : sel (blkPairs l n) x with
    | nil =>
      have hn := (sel_blks_nil l x n).1 hs
      rw [List.nil_append]
      cases hr : sel (rowPairs (Bn l n).rows (n : Int) (Bn l n).rows.length) x with
      | nil =>
        have h2 := (sel_rows_has _ _ _).1 hr
        refine .inr ⟨fun j hj => ?_, rfl⟩
        by_cases e : j < n
        · exact hn j e
        · obtain rfl : j = n := by omega
          exact h2
      | cons a r =>
        have ha : a = (n : Int) := sel_rows _ _ _ _ a (by rw [hr]; simp)
        subst ha
        refine .inl ⟨n, by omega, ?_, hn, rfl⟩
        exact Classical.byContradiction fun hc => by
          have := (sel_rows_has _ (n : Int) _).2 hc
          rw [hr] at this; cases this
    | cons a r =>
      rw [hs] at ih
      rcases ih with ⟨k, hk, hp, hl, e⟩ | ⟨_, e⟩
      · exact .inl ⟨k, by omega, hp, hl, e⟩
      · have h2 := (sel_blks_nil l x n).2
        rcases sel_first l x n with ⟨k, hk, hp, hl, e2⟩ | ⟨hn, _⟩
        · rw [hs] at e2
          exact .inl ⟨k, by omega, hp, hl, e2⟩
        · rw [h2 hn] at hs; cases hs

theorem areB_lt {R : Nat → Rw} : ∀ n : Nat, areB R n = true → ∀ j, j < n → ∀ i, i < j → (R i).i < (R j).i
  | 0, _, j, hj, _, _ => by omega
  | n + 1, h, j, hj, i, hi => by
    have h' : (areB R n && ((R n).ok && (decide (n = 0) || decide ((R (n - 1)).i < (R n).i)))) = true := h
    rw [Bool.and_eq_true, Bool.and_eq_true, Bool.or_eq_true] at h'
    by_cases e : j < n
    · exact areB_lt n h'.1 j e i hi
    · obtain rfl : j = n := by omega
      have hl : (R (j - 1)).i < (R j).i := by
        rcases h'.2.2 with h2 | h2
        · have := of_decide_eq_true h2; omega
        · exact of_decide_eq_true h2
      by_cases e2 : i = j - 1
      · rw [e2]; exact hl
      · have := areB_lt j h'.1 (j - 1) (by omega) i (by omega)
        omega
/-- In a valid block an ID stands once. -/
theorem sel_once (rs : List Rw) (k x : Int) : ∀ j, (∀ a, a < j → ∀ b, b < a → (Rn rs b).i < (Rn rs a).i) → (sel (rowPairs rs k j) x).length ≤ 1
  | 0, _ => Nat.zero_le _
  | j + 1, h => by
    rw [rowPairs, sel_app, sel_one, List.length_append]
    split
    · next e =>
      have hz : sel (rowPairs rs k j) x = [] := (sel_rows_nil rs k x j).2 fun i hi e2 => by
        have := h j (by omega) i hi
        rw [e, e2] at this; omega
      rw [hz]; simp
    · have := sel_once rs k x j (fun a ha => h a (by omega))
      simpa using this

/-- Each ID stands once just if no two blocks share one. -/
theorem uniq_iff (l : List Blk) : ∀ n, BlksOk l n → ((∀ x, (sel (blkPairs l n) x).length ≤ 1) ↔ UniqR l n)
  | 0, _ => ⟨fun _ => UniqR.zero l, fun _ x => Nat.zero_le _⟩
  | n + 1, hb => by
    have ih := uniq_iff l n (hb.low (by omega))
    have hon : ∀ x, (sel (rowPairs (Bn l n).rows (n : Int) (Bn l n).rows.length) x).length ≤ 1 := fun x => sel_once _ _ _ _ (areB_lt _ (blkB_of (hb.1 n (by omega))).2.1)
    constructor
    · intro h
      refine (ih.1 fun x => ?_).succ fun i hi x h1 h2 => ?_
      · have := h x
        rw [blkPairs, sel_app, List.length_append] at this
        omega
      · have h3 := h x
        rw [blkPairs, sel_app, List.length_append] at h3
        have a1 : sel (blkPairs l n) x ≠ [] := fun e => (sel_blks_nil l x n).1 e i hi h2
        have a2 : sel (rowPairs (Bn l n).rows (n : Int) (Bn l n).rows.length) x ≠ [] := fun e => (sel_rows_has _ _ _).1 e h1
        have b1 := List.length_pos_iff.2 a1
        have b2 := List.length_pos_iff.2 a2
        omega
    · intro h x
      rw [blkPairs, sel_app, List.length_append]
      by_cases hx : HasRow (Bn l n).rows x
      · have : sel (blkPairs l n) x = [] := (sel_blks_nil l x n).2 fun i hi h2 => h n (by omega) i hi x hx h2
        rw [this]
        have := hon x
        simpa using this
      · rw [(sel_rows_has _ _ _).2 hx]
        have := ih.2 (fun k hk => h k (by omega)) x
        simpa using this
end Go.Proofs.YtcfcohnkkgickaaDoor
