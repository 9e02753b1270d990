/-
  Texts of one base, merged: MpPlain, RpImpl, AuImpl, TvSpec, TvImpl, SofI, SmSumS, SofS, SmMks, SmHls, RowArg, RowsArg, BlkArg, TblArg.
-/
import Derived.Test.YtcfcohnkkgickaaRows
import Derived.Test.YtcfcohnkkgickaaTtPlain
import Derived.Maps.OwnRows
import Derived.Maps.RangeWalk
import Derived.WalkKit
import Derived.WalkSpells
import Derived.WalkLawsBesides
import Derived.IntWalk
import Derived.OwnWalk
import Derived.Lib.Hide
import Derived.Maps.GroupsBeside
import Derived.Deep.AppendLies
import Derived.Deep.RegionHeld3
import Derived.Test.YtcfcohnkkgickaaBkLaw
import Derived.Test.YtcfcohnkkgickaaL1In
import Derived.Test.YtcfcohnkkgickaaMhA
import Derived.Test.YtcfcohnkkgickaaSofPlain
import Derived.Test.YtcfcohnkkgickaaKeep
import Derived.Test.YtcfcohnkkgickaaHgHist
import Derived.Test.YtcfcohnkkgickaaSmPlain
import Derived.Test.YtcfcohnkkgickaaSmLaw
import Derived.Test.YtcfcohnkkgickaaTmMark
import Derived.Test.YtcfcohnkkgickaaIntLaw
import Derived.Test.YtcfcohnkkgickaaLimbs
import Derived.ProofKit
import Derived.OpenShut
import Derived.ChangeSame
import Derived.Lib.SmallJoins
import Derived.Test.YtcfcohnkkgickaaRwsOwn
import Derived.Deep.Slices
import Derived.Test.YtcfcohnkkgickaaTbLaw
namespace Go.Proofs.Ytcfcohnkkgickaa
open Go Num Go.Maps Go.ChangeShapes

/-- The second parts of the pairs whose first is x, in their order. -/
def sel : List (Int × Int) → Int → List Int
  | [], _ => []
  | p :: ps, x => if p.1 = x then p.2 :: sel ps x else sel ps x
theorem sel_app (x : Int) : ∀ ps qs, sel (ps ++ qs) x = sel ps x ++ sel qs x
  | [], _ => rfl
  | p :: ps, qs => by
    rw [List.cons_append, sel, sel, sel_app x ps qs]
    split <;> rfl
theorem sel_one (a b x : Int) : sel [(a, b)] x = if a = x then [b] else [] := rfl
theorem sel_len (x : Int) : ∀ ps, (sel ps x).length ≤ ps.length
  | [] => Nat.le_refl _
  | p :: ps => by
    have := sel_len x ps
    rw [sel]
    split <;> simp only [List.length_cons] <;> omega

/-- What a map of slices reads as that holds the pairs. -/
def GrpAt {H : Type} (D : DataW H) (ps : List (Int × Int)) : Prop :=
  IsMap D ∧ ∀ x, (sel ps x = [] → has D (.int .i64 x) = false) ∧ (sel ps x ≠ [] → ∀ zd, D.atKey (.int .i64 x) zd = .slice (lits .i64 (sel ps x)) [])
theorem GrpAt.start {H : Type} : GrpAt (.map [] : DataW H) [] := ⟨isMap_empty, fun x => ⟨fun _ => rfl, fun h => absurd rfl h⟩⟩
theorem lits_inj {H : Type} {a b : List Int} (h : lits (H := H) .i64 a = lits .i64 b) : a = b :=
  (List.map_inj_right (fun x y hxy => by simpa using hxy)).1 h
/-- What is read at a key. -/
theorem GrpAt.read {H : Type} {D : DataW H} {ps : List (Int × Int)} (h : GrpAt D ps) {w : World} {base : Nat} {e : TypeId} {v : Value} {zs : List Int} {x : Int} (ho : w.ownsInts base e .i64 v zs) (hat : D.atKey (.int .i64 x) .nil = rowDatum .i64 v zs) : zs = sel ps x := by
  obtain ⟨h1, h2⟩ := h.2 x
  by_cases hs : sel ps x = []
  · rw [hs]
    rw [atKey_of_not_has (h1 hs)] at hat
    rcases ho.datum (H := H) with ⟨_, hz⟩ | hd
    · exact hz
    · rw [hd] at hat; cases hat
  · rw [h2 hs] at hat
    rcases ho.datum (H := H) with ⟨hd, _⟩ | hd
    · rw [hd] at hat; cases hat
    · rw [hd] at hat
      exact (lits_inj (by simpa using hat)).symm
theorem GrpAt.put {H : Type} {D : DataW H} {ps : List (Int × Int)} (h : GrpAt D ps) {w' : World} {base : Nat} {e : TypeId} {v' : Value} {zs : List Int} {x a : Int} (hz : zs = sel ps x) (ho : w'.ownsInts base e .i64 v' (zs ++ [a])) : GrpAt (D.put (.int .i64 x) (rowDatum .i64 v' (zs ++ [a]))) (ps ++ [(x, a)]) := by
  subst hz
  rw [ho.datum_pos (by simp)]
  refine ⟨h.1.put _ _, fun y => ?_⟩
  rw [sel_app, sel_one]
  by_cases e : x = y
  · subst e
    rw [if_pos rfl]
    exact ⟨fun hn => by simp at hn, fun _ zd => atKey_put_same h.1 (show WideAt.IsKeyLit (.int .i64 x) from trivial) _ _⟩
  · rw [if_neg e, List.append_nil]
    have hne : (Lit.int .i64 y) ≠ .int .i64 x := fun h => e (by cases h; rfl)
    exact ⟨fun hn => by rw [has_put_other hne]; exact (h.2 y).1 hn, fun hn zd => by rw [atKey_put_other hne]; exact (h.2 y).2 hn zd⟩

/-- The pairs of the first j rows of block k. -/
def rowPairs (rs : List Rw) (k : Int) : Nat → List (Int × Int)
  | 0 => []
  | j + 1 => rowPairs rs k j ++ [((Rn rs j).i, k)]
/-- The pairs of the first k blocks. -/
def blkPairs (l : List Blk) : Nat → List (Int × Int)
  | 0 => []
  | k + 1 => blkPairs l k ++ rowPairs (Bn l k).rows k (Bn l k).rows.length
theorem rowPairs_len (rs : List Rw) (k : Int) : ∀ j, (rowPairs rs k j).length = j
  | 0 => rfl
  | j + 1 => by rw [rowPairs, List.length_append, rowPairs_len rs k j]; rfl
theorem blkPairs_len (l : List Blk) {n : Nat} (hr : ∀ k, k < n → (Bn l k).rows.length ≤ 1048576) : ∀ k, k ≤ n → (blkPairs l k).length ≤ k * 1048576
  | 0, _ => Nat.le_refl _
  | k + 1, h => by
    have := blkPairs_len l hr k (by omega)
    have := hr k (by omega)
    rw [blkPairs, List.length_append, rowPairs_len]
    omega

/-- The block's own share at x. -/
theorem sel_rows (rs : List Rw) (k x : Int) : ∀ j, ∀ a ∈ sel (rowPairs rs k j) x, a = k
  | 0, a, h => by cases h
  | j + 1, a, h => by
    rw [rowPairs, sel_app, sel_one] at h
    rcases List.mem_append.1 h with h | h
    · exact sel_rows rs k x j a h
    · split at h
      · simpa using h
      · cases h
theorem sel_rows_nil (rs : List Rw) (k x : Int) : ∀ j, sel (rowPairs rs k j) x = [] ↔ ∀ i, i < j → (Rn rs i).i ≠ x
  | 0 => ⟨fun _ i hi => by omega, fun _ => rfl⟩
  | j + 1 => by
    rw [rowPairs, sel_app, sel_one, List.append_eq_nil_iff, sel_rows_nil rs k x j]
    constructor
    · rintro ⟨h1, h2⟩ i hi
      by_cases e : i < j
      · exact h1 i e
      · obtain rfl : i = j := by omega
        intro e2
        rw [if_pos e2] at h2
        cases h2
    · intro h
      exact ⟨fun i hi => h i (by omega), by rw [if_neg (h j (by omega))]⟩
theorem sel_rows_has (rs : List Rw) (k x : Int) : sel (rowPairs rs k rs.length) x = [] ↔ ¬ HasRow rs x := by
  rw [sel_rows_nil]
  exact ⟨fun h ⟨j, hj, e⟩ => h j hj e, fun h i hi e => h ⟨i, hi, e⟩⟩
theorem sel_blks_nil (l : List Blk) (x : Int) : ∀ n, sel (blkPairs l n) x = [] ↔ ∀ i, i < n → ¬ HasRow (Bn l i).rows x
  | 0 => ⟨fun _ i hi => by omega, fun _ => rfl⟩
  | n + 1 => by
    rw [blkPairs, sel_app, List.append_eq_nil_iff, sel_blks_nil l x n, sel_rows_has]
    constructor
    · rintro ⟨h1, h2⟩ i hi
      by_cases e : i < n
      · exact h1 i e
      · obtain rfl : i = n := by omega
        exact h2
    · intro h
      exact ⟨fun i hi => h i (by omega), h n (by omega)⟩

/-- The first block in which x stands. -/
theorem sel_first (l : List Blk) (x : Int) : ∀ n, FirstAns (fun k => HasRow (Bn l k).rows x) n (match sel (blkPairs l n) x with | [] => -1 | a :: _ => a)
  | 0 => .inr ⟨fun j hj => by omega, rfl⟩
  | n + 1 => by
    have ih := sel_first l x n
    rw [blkPairs, sel_app]
    cases hs : sel (blkPairs l n) x with
    | nil =>
      have hn := (sel_blks_nil l x n).1 hs
      rw [List.nil_append]
      cases hr : sel (rowPairs (Bn l n).rows (n : Int) (Bn l n).rows.length) x with
      | nil =>
        have h2 := (sel_rows_has _ _ _).1 hr
        refine .inr ⟨fun j hj => ?_, rfl⟩
        by_cases e : j < n
        · exact hn j e
        · obtain rfl : j = n := by omega
          exact h2
      | cons a r =>
        have ha : a = (n : Int) := sel_rows _ _ _ _ a (by rw [hr]; simp)
        subst ha
        refine .inl ⟨n, by omega, ?_, hn, rfl⟩
        exact Classical.byContradiction fun hc => by
          have := (sel_rows_has _ (n : Int) _).2 hc
          rw [hr] at this; cases this
    | cons a r =>
      rw [hs] at ih
      rcases ih with ⟨k, hk, hp, hl, e⟩ | ⟨_, e⟩
      · exact .inl ⟨k, by omega, hp, hl, e⟩
      · have h2 := (sel_blks_nil l x n).2
        rcases sel_first l x n with ⟨k, hk, hp, hl, e2⟩ | ⟨hn, _⟩
        · rw [hs] at e2
          exact .inl ⟨k, by omega, hp, hl, e2⟩
        · rw [h2 hn] at hs; cases hs

theorem areB_lt {R : Nat → Rw} : ∀ n : Nat, areB R n = true → ∀ j, j < n → ∀ i, i < j → (R i).i < (R j).i
  | 0, _, j, hj, _, _ => by omega
  | n + 1, h, j, hj, i, hi => by
    have h' : (areB R n && ((R n).ok && (decide (n = 0) || decide ((R (n - 1)).i < (R n).i)))) = true := h
    rw [Bool.and_eq_true, Bool.and_eq_true, Bool.or_eq_true] at h'
    by_cases e : j < n
    · exact areB_lt n h'.1 j e i hi
    · obtain rfl : j = n := by omega
      have hl : (R (j - 1)).i < (R j).i := by
        rcases h'.2.2 with h2 | h2
        · have := of_decide_eq_true h2; omega
        · exact of_decide_eq_true h2
      by_cases e2 : i = j - 1
      · rw [e2]; exact hl
      · have := areB_lt j h'.1 (j - 1) (by omega) i (by omega)
        omega
/-- In a valid block an ID stands once. -/
theorem sel_once (rs : List Rw) (k x : Int) : ∀ j, (∀ a, a < j → ∀ b, b < a → (Rn rs b).i < (Rn rs a).i) → (sel (rowPairs rs k j) x).length ≤ 1
  | 0, _ => Nat.zero_le _
  | j + 1, h => by
    rw [rowPairs, sel_app, sel_one, List.length_append]
    split
    · next e =>
      have hz : sel (rowPairs rs k j) x = [] := (sel_rows_nil rs k x j).2 fun i hi e2 => by
        have := h j (by omega) i hi
        rw [e, e2] at this; omega
      rw [hz]; simp
    · have := sel_once rs k x j (fun a ha => h a (by omega))
      simpa using this

/-- Each ID stands once just if no two blocks share one. -/
theorem uniq_iff (l : List Blk) : ∀ n, BlksOk l n → ((∀ x, (sel (blkPairs l n) x).length ≤ 1) ↔ UniqR l n)
  | 0, _ => ⟨fun _ => UniqR.zero l, fun _ x => Nat.zero_le _⟩
  | n + 1, hb => by
    have ih := uniq_iff l n (hb.low (by omega))
    have hon : ∀ x, (sel (rowPairs (Bn l n).rows (n : Int) (Bn l n).rows.length) x).length ≤ 1 := fun x => sel_once _ _ _ _ (areB_lt _ (blkB_of (hb.1 n (by omega))).2.1)
    constructor
    · intro h
      refine (ih.1 fun x => ?_).succ fun i hi x h1 h2 => ?_
      · have := h x
        rw [blkPairs, sel_app, List.length_append] at this
        omega
      · have h3 := h x
        rw [blkPairs, sel_app, List.length_append] at h3
        have a1 : sel (blkPairs l n) x ≠ [] := fun e => (sel_blks_nil l x n).1 e i hi h2
        have a2 : sel (rowPairs (Bn l n).rows (n : Int) (Bn l n).rows.length) x ≠ [] := fun e => (sel_rows_has _ _ _).1 e h1
        have b1 := List.length_pos_iff.2 a1
        have b2 := List.length_pos_iff.2 a2
        omega
    · intro h x
      rw [blkPairs, sel_app, List.length_append]
      by_cases hx : HasRow (Bn l n).rows x
      · have : sel (blkPairs l n) x = [] := (sel_blks_nil l x n).2 fun i hi h2 => h n (by omega) i hi x hx h2
        rw [this]
        have := hon x
        simpa using this
      · rw [(sel_rows_has _ _ _).2 hx]
        have := ih.2 (fun k hk => h k (by omega)) x
        simpa using this
end Go.Proofs.Ytcfcohnkkgickaa

namespace Go.Proofs.Ytcfcohnkkgickaa
open Go.RowKit Num Go.Maps

theorem infoInt : (Try.prog.info? 3).map (fun i => (i.zero, i.size, i.bytes)) = some (some (.int .i64 0), 1, 8) := by kernel_rfl
theorem zeroInts (w : World) : (zeroValue 45).run Try.prog w = .ok (.slice none 0 0) w := by kernel_rfl
theorem mapLaw : Keyed Try.prog 3 := int_keyed Try.underlying3
theorem mapT : Try.prog.underlying 158 = some (.map 3 45) := by kernel_rfl

/-- A block of another type is no row that is owned. -/
theorem row_apart {w : World} {base : Nat} {e t : TypeId} {size n rb : Nat} {v : Value} {xs : List Value} {cs : Array Value} {fz : Nat × Nat} (ho : w.ownsRow base e size v n xs) (hb : w.heap[rb]? = some (.cells cs t fz)) (hne : t ≠ e) : some rb ≠ v.ownBlock := by
  rcases ho.2 with ⟨rfl, _⟩ | ⟨g, cap, cur, rfl, _, hh, _⟩
  · intro h; cases h
  · intro h
    obtain rfl : rb = g := by simpa [Value.ownBlock] using h
    rw [hb] at hh
    simp only [Option.some.injEq, Obj.cells.injEq] at hh
    exact hne hh.2.1
theorem grown_drew (w : World) (row : Option Nat) : w.grownBy w.drew row := ⟨rfl, rfl, rfl, Nat.le_refl _, fun _ _ _ => rfl⟩
theorem groups_alloc {H : Type} {w : World} {P : Program} {k e : TypeId} {base b n : Nat} {q : IntKind} {D : DataW H} (h : w.ownsGroups P k base e q b n D) (o : Obj) : (w.alloc o).ownsGroups P k base e q b n D :=
  h.kept (row := none) (World.grownBy_alloc w o none) (by simp) (h.rowsAbove (fun j hj => by cases hj))
theorem groups_drew {H : Type} {w : World} {P : Program} {k e : TypeId} {base b n : Nat} {q : IntKind} {D : DataW H} (h : w.ownsGroups P k base e q b n D) : w.drew.ownsGroups P k base e q b n D :=
  h.kept (row := none) (grown_drew w none) (by simp) (h.rowsAbove (fun j hj => by cases hj))

/-- What rowPlaces leaves. -/
def RpPost (l : List Blk) (n : Nat) (w : World) (e : Ending) (w' : World) : Prop :=
  ∃ (b m : Nat) (D : DataW Unit), e = .returned (.map (some b)) ∧ m < maxLen ∧ w'.ownsGroups Try.prog 3 (b + 1) 3 .i64 b m D ∧ GrpAt D (blkPairs l n) ∧ w.heap.size ≤ b ∧ Below w.heap.size w w'

set_option maxRecDepth 8000 in
set_option maxHeartbeats 12800000 in
theorem impl_rp (ver : Int) (ao : Option Addr) (n cap : Nat) (l : List Blk) (w : World) (hl : l.length = n) (hn : n ≤ 1048576) (hr : ∀ k, k < n → (Bn l k).rows.length ≤ 1048576) (hw : WfB n (Bn l)) (hV : BlksVal w ao l) :
    Calls Try.prog 132 #[.agg #[.int .i64 ver, .slice ao n cap]] w (RpPost l n w) := by
  have HV := Lib.hid hV
  have HL := Lib.hid hl
  have HR := Lib.hid hr
  have HW := Lib.hid hw
  clear hV hl hr hw
  have hnI : (n : Int) ≤ 1048576 := by omega
  have hmm := @run_makeMap Try.prog
  obtain ⟨i0, hi, hz0, hz1, hz2⟩ := info_parts infoInt
  go_enter Try.func132, Try.ntmps132
  go_wp2_with fail
  have K0 := (Kept.start w).alloc2 (.int .i64 ver) (.slice ao n cap) 32 _ rfl
  have G0 := Lib.hid (World.ownsGroups_made (H := Unit) (w.alloc (.cells #[.int .i64 ver, .slice ao n cap] 32)) Try.prog 3 3 .i64)
  have B0 := Lib.hid (K0.1.alloc K0.1.size (.map #[] 0))
  go_loopw [12] (fun iv wr => ∃ (k : Nat) (D : DataW Unit), k ≤ n ∧ iv = .int .i64 k ∧ Hid (wr.ownsGroups Try.prog 3 (w.heap.size + 1 + 1) 3 .i64 (w.heap.size + 1) (blkPairs l k).length D) ∧ Hid (GrpAt D (blkPairs l k)) ∧ Hid (Below w.heap.size w wr) ∧ w.heap.size + 1 + 1 ≤ wr.heap.size) (fun iv _ => n - (intOf iv).toNat)
  case atStart => exact ⟨0, _, Nat.zero_le _, rfl, Lib.hid (by simpa [blkPairs] using G0.out), Lib.hid GrpAt.start, B0, by simp⟩
  case round =>
    obtain ⟨k, D, hk, rfl, HG, HD, HB, hsz⟩ := hrel
    clear K0 G0 B0
    by_cases hlt : k < n
    · have hkI : (k : Int) < (n : Int) := by omega
      have hwk : (Lit.int .i64 (k : Int)).wf = true := WalkArith.wf_i64 (by omega)
      obtain ⟨g, rfl, hg, hBk⟩ := HV.out.head HL.out (by omega)
      obtain ⟨rao, rcap, c0, c1, hRV⟩ := hBk k hlt
      have HRV := Lib.hid hRV
      have c0 := (HB.out.cell (p := ⟨g, k * 2, none⟩) hg).trans c0
      have c1 := (HB.out.cell (p := ⟨g, k * 2 + 1, none⟩) hg).trans c1
      have hrl := HR.out k hlt
      have HLN := Lib.hid (blkPairs_len l HR.out k hk)
      have HWK := Lib.hid (HW.out k hlt)
      have HEND := Lib.hid (show blkPairs l (k + 1) = blkPairs l k ++ rowPairs (Bn l k).rows k (Bn l k).rows.length from rfl)
      obtain ⟨bk, hbk⟩ : ∃ bk, bk = Bn l k := ⟨_, rfl⟩
      rw [← hbk] at c0 c1 HRV hrl HWK HEND
      obtain ⟨rs, hrs⟩ : ∃ rs, rs = bk.rows := ⟨_, rfl⟩
      rw [← hrs] at c1 HRV hrl HWK HEND
      obtain ⟨m, hm⟩ : ∃ m, m = rs.length := ⟨_, rfl⟩
      rw [← hm] at c1 HRV hrl HWK HEND
      have hmI : (m : Int) ≤ 1048576 := by omega
      obtain ⟨ps, hps⟩ : ∃ ps, ps = blkPairs l k := ⟨_, rfl⟩
      rw [← hps] at HG HD HLN HEND
      have hgl := HLN.out
      have hB0 := HB.out.alloc HB.out.size (.cells #[.int .i64 bk.id, .slice rao m rcap] 80)
      have HB1 := Lib.hid hB0
      have HG1 := Lib.hid (groups_alloc HG.out (.cells #[.int .i64 bk.id, .slice rao m rcap] 80))
      clear hBk hRV hbk hrs hm hps hB0
      go_wp2_with fail
      go_loopw [20] (fun jv wr => ∃ (j : Nat) (D : DataW Unit), j ≤ m ∧ jv = .int .i64 j ∧ Hid (wr.ownsGroups Try.prog 3 (w.heap.size + 1 + 1) 3 .i64 (w.heap.size + 1) (ps.length + j) D) ∧ Hid (GrpAt D (ps ++ rowPairs rs k j)) ∧ Hid (Below w.heap.size w wr) ∧ w.heap.size + 1 + 1 ≤ wr.heap.size) (fun jv _ => m - (intOf jv).toNat)
      case atStart => exact ⟨0, D, Nat.zero_le _, rfl, HG1, by simpa [rowPairs] using HD, HB1, by simp; omega⟩
      case round =>
        clear HG HD HB HG1 HB1 c0 c1 hsz D
        obtain ⟨j, D, hj, rfl, HG, HD, HB, hsz⟩ := hrel
        by_cases hjt : j < m
        · have hjI : (j : Int) < (m : Int) := by omega
          obtain ⟨h, rfl, hh, hRows⟩ : ∃ h, rao = some ⟨h, 0, none⟩ ∧ h < w.heap.size ∧ ∀ k, k < m → RowIn w h k (Rn rs k) := HRV.out.resolve_left (by omega)
          obtain ⟨d0, d1, d2, d3, d4⟩ := (hRows j hjt).below HB.out hh
          have hwi := HWK.out j hjt
          obtain ⟨r, hr⟩ : ∃ r, r = Rn rs j := ⟨_, rfl⟩
          have HPS := Lib.hid (show ps ++ rowPairs rs k (j + 1) = ps ++ rowPairs rs k j ++ [(r.i, (k : Int))] from by rw [hr, List.append_assoc]; rfl)
          rw [← hr] at d0 d1 d2 d3 d4 hwi
          obtain ⟨rb, hrb⟩ : ∃ rb, rb = wr.heap.size := ⟨_, rfl⟩
          have HH := Lib.hid hh
          clear hRows hr hh
          have hkey := keyOf_int_mk Try.underlying3 hwi
          have h5 := groups_alloc HG.out (.cells #[.int .i64 r.i, .int .i64 r.g, .int .i64 r.y, .int .i64 r.x, .bool r.nl] 36)
          have blk5 := heap_alloc_new wr (.cells #[.int .i64 r.i, .int .i64 r.g, .int .i64 r.y, .int .i64 r.x, .bool r.nl] 36)
          have b5 := Lib.hid (HB.out.alloc HB.out.size (.cells #[.int .i64 r.i, .int .i64 r.g, .int .i64 r.y, .int .i64 r.x, .bool r.nl] 36))
          have s5 : (wr.alloc (.cells #[.int .i64 r.i, .int .i64 r.g, .int .i64 r.y, .int .i64 r.x, .bool r.nl] 36)).heap.size = wr.heap.size + 1 := by simp
          have hA := groups_drew h5
          have hB := groups_drew (groups_alloc h5 (.cells #[.int .i64 (k : Int)] 3))
          go_wp2_with fail
          generalize (wr.alloc (.cells #[.int .i64 r.i, .int .i64 r.g, .int .i64 r.y, .int .i64 r.x, .bool r.nl] 36)) = w5 at *
          have c5 : w5.cell? ⟨wr.heap.size, 0, none⟩ = some (.int .i64 r.i) := by rw [cell_of_row w5 wr.heap.size 0 _ _ (0, 0) blk5]; rfl
          have hnl : ps.length + j < maxLen := by unfold maxLen; omega
          obtain ⟨vA, zA, runA, hatA, hoiA, hzlA, backA⟩ := hA.at mapLaw mapT (zeroInts _) hnl hkey
          obtain ⟨vB, zB, runB, hatB, hoiB, hzlB, backB⟩ := hB.at mapLaw mapT (zeroInts _) hnl hkey
          have neA : some wr.heap.size ≠ vA.ownBlock := row_apart hoiA.1 (show w5.drew.heap[wr.heap.size]? = _ from blk5) (by decide)
          have blkB : ((w5.alloc (.cells #[.int .i64 (k : Int)] 3)).drew).heap[wr.heap.size]? = some (.cells #[.int .i64 r.i, .int .i64 r.g, .int .i64 r.y, .int .i64 r.x, .bool r.nl] 36) := ((World.grownBy_alloc w5.drew _ none).block _ (show wr.heap.size < w5.heap.size by omega) (by simp)).trans blk5
          have neB : some wr.heap.size ≠ vB.ownBlock := row_apart hoiB.1 blkB (by decide)
          have neM : some wr.heap.size ≠ some (w.heap.size + 1) := by simp; omega
          have ZA : zA = sel (ps ++ rowPairs rs k j) r.i := HD.out.read hoiA hatA
          have ZB : zB = sel (ps ++ rowPairs rs k j) r.i := HD.out.read hoiB hatB
          have BA := Lib.hid backA
          have BB := Lib.hid backB
          have OA := Lib.hid hoiA
          have OB := Lib.hid hoiB
          have PA := Lib.hid ZA
          have PB := Lib.hid ZB
          have sB : ((w5.alloc (.cells #[.int .i64 (k : Int)] 3)).drew).heap.size = w5.heap.size + 1 := by show (w5.alloc (.cells #[.int .i64 (k : Int)] 3)).heap.size = _; rw [World.size_alloc]
          have lB : wr.heap.size < ((w5.alloc (.cells #[.int .i64 (k : Int)] 3)).drew).heap.size := by omega
          have bB : w.heap.size + 1 + 1 ≤ ((w5.alloc (.cells #[.int .i64 (k : Int)] 3)).drew).heap.size := by omega
          have lC : w5.heap.size ≤ ((w5.alloc (.cells #[.int .i64 (k : Int)] 3)).drew).heap.size := by omega
          have l5 : w5.heap.size < ((w5.alloc (.cells #[.int .i64 (k : Int)] 3)).drew).heap.size := by omega
          have oA2 : ((w5.alloc (.cells #[.int .i64 (k : Int)] 3)).drew).ownsRow (w.heap.size + 1 + 1) 3 1 vA zA.length (zA.map (Value.int .i64)) := hoiA.1.alloc _
          have gA2 : ∀ row, w5.drew.grownBy ((w5.alloc (.cells #[.int .i64 (k : Int)] 3)).drew) row := fun row => World.grownBy_alloc w5.drew _ row
          have cN : ∀ j9 u9, ([.int .i64 (k : Int)] : List Value)[j9]? = some u9 → ((w5.alloc (.cells #[.int .i64 (k : Int)] 3)).drew).cell? ((⟨w5.heap.size, 0, none⟩ : Addr).add j9) = some u9 := cell_one_new w5 _ _
          have OA2 := Lib.hid oA2
          have GA2 := Lib.hid gA2
          have CN := Lib.hid cN
          have S5 := Lib.hid s5
          clear oA2 gA2 cN s5 sB hA hB h5 hatA hatB backA backB hoiA hoiB blk5 blkB ZA ZB hrb hkey hwi d0 d1 d2 d3 d4
          (first | go_region_held3 (fun w' => w'.cell? ⟨wr.heap.size, 0, none⟩ = some (.int .i64 r.i)) (first | assumption | exact c5 | exact cell_alloc_some _ (by assumption) | exact (grow2.cell_far ⟨wr.heap.size, 0, none⟩ (Nat.lt_of_lt_of_le lB hsz1) neM).trans (by assumption) | exact (hgrow.cell_far ⟨wr.heap.size, 0, none⟩ lB neA).trans (by assumption) | exact (hgrow.cell_far ⟨wr.heap.size, 0, none⟩ lB neB).trans (by assumption)) (first
            | (refine step_append_lies ((w5.alloc (.cells #[.int .i64 (k : Int)] 3)).drew) (by rfl) _ _ 45 (by rfl) (w.heap.size + 1 + 1) 3 i0 (.int .i64 0) 1 8 Try.underlying45 hi hz0 hz1 hz2 rfl (by decide) vA zA.length (zA.map (Value.int .i64)) (by rfl) OA2.out ⟨w5.heap.size, 0, none⟩ 1 1 [.int .i64 k] (by rfl) rfl CN.out (ints_oneCell .i64 [(k : Int)]) (by decide) (by unfold maxLen; omega) (by omega) bB _ rfl ?_; intro g9 cap9 w1 hown1 hgrow hat hlt1; obtain ⟨w2, run2, own2, grow2⟩ := BA.out w1 (.slice (some ⟨g9, 0, none⟩) (zA.length + 1) cap9) (zA ++ [(k : Int)]) ((GA2.out _).trans hgrow) (OA.out.appended hown1 hwk) (by simp; omega) (hat.imp (fun h => h.symm) (fun h => ⟨g9, rfl, by rw [h]; exact lC⟩)); have hsz1 := hgrow.size)
            | (refine step_append_lies ((w5.alloc (.cells #[.int .i64 (k : Int)] 3)).drew) (by rfl) _ _ 45 (by rfl) (w.heap.size + 1 + 1) 3 i0 (.int .i64 0) 1 8 Try.underlying45 hi hz0 hz1 hz2 rfl (by decide) vB zB.length (zB.map (Value.int .i64)) (by rfl) OB.out.1 ⟨w5.heap.size, 0, none⟩ 1 1 [.int .i64 k] (by rfl) rfl CN.out (ints_oneCell .i64 [(k : Int)]) (by decide) (by unfold maxLen; omega) (by omega) bB _ rfl ?_; intro g9 cap9 w1 hown1 hgrow hat hlt1; obtain ⟨w2, run2, own2, grow2⟩ := BB.out w1 (.slice (some ⟨g9, 0, none⟩) (zB.length + 1) cap9) (zB ++ [(k : Int)]) hgrow (OB.out.appended hown1 hwk) (by simp; omega) (hat.imp (fun h => h.symm) (fun h => ⟨g9, rfl, by rw [h]; exact Nat.le_refl _⟩)); have hsz1 := hgrow.size)) | fail)
          all_goals
            have HG2 := Lib.hid own2
            have sz2 : w.heap.size + 1 + 1 ≤ w2.heap.size := by
              have h1 := grow2.size
              have h2 := S5.out
              omega
            first
              | (have HD2 := Lib.hid (HD.out.put PA.out (OA.out.appended hown1 hwk)); have HB2 := Lib.hid (Below.groups b5.out.drew OA.out ((GA2.out _).trans hgrow) grow2 b5.out.size (by omega) (by omega)))
              | (have HD2 := Lib.hid (HD.out.put PB.out (OB.out.appended hown1 hwk)); have HB2 := Lib.hid (Below.groups (b5.out.alloc b5.out.size _).drew OB.out hgrow grow2 (Nat.le_trans b5.out.size (by assumption)) (by omega) (by omega)))
            rw [← HPS.out] at HD2
            obtain ⟨w7, hw7⟩ : ∃ w7, w7 = w2 := ⟨_, rfl⟩
            clear own2 grow2 run2 hgrow hown1 OA OB BA BB PA PB OA2 GA2 CN runA runB
            subst hw7
            go_wp2
            go_roundw
            case rel => exact ⟨j + 1, _, by omega, by go_num, HG2, HD2, HB2, sz2⟩
            case measure => simp [intOf]; omega
        · obtain rfl : j = m := by omega
          have hsd : decide ((j : Int) < (j : Int)) = false := decide_eq_false (by omega)
          go_wp2
          go_roundw
          case rel => exact ⟨k + 1, D, by omega, by go_num, Lib.hid (by rw [HEND.out, List.length_append, rowPairs_len]; exact HG.out), Lib.hid (by rw [HEND.out]; exact HD.out), HB, hsz⟩
          case measure => simp [intOf]; omega
    · obtain rfl : k = n := by omega
      have hsd : decide ((k : Int) < (k : Int)) = false := decide_eq_false (by omega)
      have hm := blkPairs_len l HR.out k (Nat.le_refl _)
      have hm2 : (blkPairs l k).length < maxLen := by unfold maxLen; omega
      clear hm
      go_wp2
      go_ret
      exact ⟨w.heap.size + 1, _, D, rfl, hm2, HG.out, HD.out, by omega, HB.out⟩
end Go.Proofs.Ytcfcohnkkgickaa

namespace Go.Proofs.Ytcfcohnkkgickaa
open Go.RowKit Num Go.Maps

/-- A slice that is owned has as many elements as it owns numbers. -/
theorem ints_len {w : World} {base : Nat} {e : TypeId} {q : IntKind} {ao : Option Addr} {n c : Nat} {zs : List Int} (h : w.ownsInts base e q (.slice ao n c) zs) : n = zs.length := by
  rcases h.1.2 with ⟨hv, h0⟩ | ⟨g, cap, cur, hv, _⟩
  · simp only [Value.slice.injEq] at hv
    obtain ⟨_, rfl, _⟩ := hv
    exact h0.symm
  · simp only [Value.slice.injEq] at hv
    exact hv.2.1
theorem ints_slice {w : World} {base : Nat} {e : TypeId} {q : IntKind} {v : Value} {zs : List Int} (h : w.ownsInts base e q v zs) : ∃ p : Option Addr × Nat × Nat, v = .slice p.1 p.2.1 p.2.2 := by
  rcases h.1.2 with ⟨rfl, _⟩ | ⟨g, cap, cur, rfl, _⟩
  · exact ⟨(none, 0, 0), rfl⟩
  · exact ⟨(_, _, _), rfl⟩

/-- The step of a range over such a map. -/
theorem next_groups {ops : Array Oper} {rest : List Oper} {o : Oper} {a : Act} {Q : Exit → Act → World → Prop} (w w0 : World) (hg : o.guard = none) (it : Operand) (hop : o.op = Op.next it false) (base b r n : Nat) (D : DataW Unit) (left : Lit → Bool) (cnt : Nat)
    (hit : a.eval it = .pointer (some ⟨r, 0, none⟩)) (h : w.ranges Try.prog 3 (rowElem w0 base 3 .i64) b r n D left cnt)
    (hDone : cnt = 0 → (∀ kl, left kl = false) → wpList Try.prog ops Q rest (a.put o.dst (.tuple #[.bool false])) w)
    (hMore : ∀ (x : Int) (ao : Option Addr) (n9 c : Nat) (zs : List Int) (w' : World) (cnt' : Nat), left (.int .i64 x) = true → w0.ownsInts base 3 .i64 (.slice ao n9 c) zs → (∀ zd, D.atKey (.int .i64 x) zd = rowDatum .i64 (.slice ao n9 c) zs) →
      w'.ranges Try.prog 3 (rowElem w0 base 3 .i64) b r n D (fun z => left z && !z.sameKey (.int .i64 x)) cnt' → cnt' < cnt → w.grownBy w' (some r) →
      (Instr.entry (.pointer (some ⟨r, 0, none⟩))).run Try.prog w' = .ok (.tuple #[.int .i64 x, .slice ao n9 c]) w' → wpList Try.prog ops Q rest (a.put o.dst (.tuple #[.bool true, .int .i64 x, .slice ao n9 c])) w') :
    wpList Try.prog ops Q (o :: rest) a w :=
  wpList_next_ranges w hg it hop 3 mapLaw (rowElem w0 base 3 .i64) (Value.int .i64) (fun p : Option Addr × Nat × Nat => Value.slice p.1 p.2.1 p.2.2) (fun key kl hkey => by obtain ⟨x, rfl, _⟩ := Maps.keyOf_int_inv Try.underlying3 hkey; exact ⟨x, rfl⟩)
    (fun v y hv => by obtain ⟨zs, ho, _⟩ := rowElem_inv hv; exact ints_slice ho) b r n D left cnt hit h hDone (fun x c kl y w' cnt' hkey hlk hv hat hrg hlt hgr hsz hen => by
      obtain ⟨x', ex, rfl, _⟩ := Maps.keyOf_int_inv Try.underlying3 hkey
      cases ex
      obtain ⟨zs, ho, rfl⟩ := rowElem_inv hv
      exact hMore x c.1 c.2.1 c.2.2 zs w' cnt' hlk ho hat hrg hlt hgr hen)

/-- What areUnique answers. -/
def AuPost (ps : List (Int × Int)) (w : World) (e : Ending) (w' : World) : Prop := ∃ v : Bool, (v = true ↔ ∀ x, (sel ps x).length ≤ 1) ∧ e = .returned (.bool v) ∧ Below w.heap.size w w'

set_option maxRecDepth 8000 in
set_option maxHeartbeats 6400000 in
theorem impl_au (b m : Nat) (D : DataW Unit) (ps : List (Int × Int)) (w : World) (hm : m < maxLen) (hown : w.ownsGroups Try.prog 3 (b + 1) 3 .i64 b m D) (hD : GrpAt D ps) :
    Calls Try.prog 133 #[.map (some b)] w (AuPost ps w) := by
  have hmap : w.ownsMap Try.prog 3 (rowElem w (b + 1) 3 .i64) b m D := by
    obtain ⟨es, clock, h1, h2, h3, h4, _⟩ := hown
    exact ⟨es, clock, h1, h2, h3, h4⟩
  have HD := Lib.hid hD
  have hzl : ∀ x v zs, D.atKey (.int .i64 x) .nil = rowDatum .i64 v zs → w.ownsInts (b + 1) 3 .i64 v zs → zs = sel ps x := fun x v zs h1 h2 => hD.read h2 h1
  have HZ := Lib.hid hzl
  have HPN := Lib.hid (show ∀ x, has D (.int .i64 x) = false → sel ps x = [] from fun x h => Classical.byContradiction fun hc => by
    have h1 := (hD.2 x).2 hc
    have h2 := atKey_of_not_has h
    have h3 := (h1 .nil).symm.trans (h2 .nil)
    cases h3)
  clear hown hD hzl
  go_enter Try.func133, Try.ntmps133
  go_wp2_with (first
    | (at_range; refine wpList_range_own _ rfl _ 158 rfl 3 45 mapLaw mapT _ b m D rfl hmap ?_; intro w0 hrg0 hg0 hs0)
    | go_in)
  go_frame
  go_loopw [4] (fun _ wr => ∃ (left : Lit → Bool) (cnt : Nat), wr.ranges Try.prog 3 (rowElem w (b + 1) 3 .i64) b w.heap.size m D left cnt ∧ Hid (Below w.heap.size w wr) ∧ Hid (∀ x, has D (.int .i64 x) = true → left (.int .i64 x) = false → (sel ps x).length ≤ 1)) (fun _ wr => wr.rangeLeft b w.heap.size)
  case atStart => exact ⟨_, _, hrg0, Lib.hid ((Below.refl _ _).grown hg0 (Nat.le_refl _) (fun j hj => by cases hj)), Lib.hid (fun x h1 h2 => by rw [h1] at h2; cases h2)⟩
  case round =>
    obtain ⟨left, cnt, hrg, HB, HA⟩ := hrel
    clear hrg0 hg0 hs0 hmap
    go_wp2_with (first
      | (at_next; refine next_groups _ w rfl _ rfl (b + 1) b w.heap.size m D _ _ rfl hrg ?_ ?_)
      | go_in)
    · intro _ hl0
      have YE := Lib.hid (show ∀ x, (sel ps x).length ≤ 1 from fun x => by
        cases hh : has D (.int .i64 x)
        · rw [HPN.out x hh]; exact Nat.zero_le _
        · exact HA.out x hh (hl0 _))
      clear hl0
      go_wp2
      go_ret
      exact ⟨true, ⟨fun _ => YE.out, fun _ => rfl⟩, rfl, HB.out⟩
    · intro x a9 n9 c9 zs w1 cnt1 hlx ho hat hrg1 hlt hg1 hen
      have hn9 := ints_len ho
      have hzs := HZ.out x _ zs (hat .nil) ho
      have hB1 := HB.out.grown hg1 HB.out.size (fun j hj => by cases hj; exact Nat.le_refl _)
      have HB1 := Lib.hid hB1
      by_cases h1 : 1 < n9
      · have h1I : (1 : Int) < (n9 : Int) := by omega
        have NO := Lib.hid (show ¬ ∀ x, (sel ps x).length ≤ 1 from fun h => by have := h x; rw [← hzs, ← hn9] at this; omega)
        clear hat ho hzs hB1
        go_wp2
        go_ret
        exact ⟨false, ⟨(fun h9 => by cases h9), fun k => absurd k NO.out⟩, rfl, HB1.out⟩
      · have h1d : decide ((1 : Int) < (n9 : Int)) = false := decide_eq_false (by omega)
        have HA1 := Lib.hid (show ∀ y, has D (.int .i64 y) = true → (left (.int .i64 y) && !(Lit.int .i64 y).sameKey (.int .i64 x)) = false → (sel ps y).length ≤ 1 from fun y h2 h3 => by
          by_cases e : y = x
          · subst e; rw [← hzs, ← hn9]; omega
          · have hk : (Lit.int .i64 y).sameKey (.int .i64 x) = false := sameKey_ne (fun h => e (by cases h; rfl))
            rw [hk] at h3
            exact HA.out y h2 (by simpa using h3))
        clear hat ho hzs hB1
        go_wp2
        go_roundw
        case rel => exact ⟨_, cnt1, hrg1, HB1, HA1⟩
        case measure => rw [hrg1.left_eq, hrg.left_eq]; exact hlt
end Go.Proofs.Ytcfcohnkkgickaa

namespace Go.Proofs.Ytcfcohnkkgickaa
open Go.RowKit Num

theorem first_min {p : Nat → Prop} : ∀ (i : Nat), p i → ∃ m, m ≤ i ∧ p m ∧ ∀ j, j < m → ¬ p j := fun i => by
  induction i using Nat.strongRecOn with
  | ind i ih =>
    intro hp
    by_cases h : ∃ j, j < i ∧ p j
    · obtain ⟨j, hj, hpj⟩ := h
      obtain ⟨m, hm, h1, h2⟩ := ih j hj hpj
      exact ⟨m, by omega, h1, h2⟩
    · exact ⟨i, Nat.le_refl _, hp, fun j hj hpj => h ⟨j, hj, hpj⟩⟩
theorem firstAns_here {p : Nat → Prop} {n k : Nat} (hk : k < n) (hp : p k) (h : ∀ i, i < k → ¬ p i) : FirstAns p n (k : Int) := .inl ⟨k, hk, hp, h, rfl⟩
theorem firstAns_less {p : Nat → Prop} {n k : Nat} (hk : k < n) (h : ∃ i, i < k ∧ p i) : ∃ v : Int, FirstAns p n v ∧ v ≠ (k : Int) := by
  obtain ⟨i, hi, hp⟩ := h
  obtain ⟨m, hm, h1, h2⟩ := first_min i hp
  exact ⟨m, .inl ⟨m, by omega, h1, h2, rfl⟩, by omega⟩

/-- What IsValidTable answers. -/
def TvPost (ver : Int) (l : List Blk) (n : Nat) (w : World) (e : Ending) (w' : World) : Prop := ∃ v : Bool, (v = true ↔ TblOk ver l n) ∧ e = .returned (.bool v) ∧ Below w.heap.size w w'
theorem TvPost.no {ver : Int} {l : List Blk} {n : Nat} {w w' : World} (h : ¬ TblOk ver l n) (hb : Below w.heap.size w w') : TvPost ver l n w (.returned (.bool false)) w' := ⟨false, ⟨(fun h9 => by cases h9), fun k => absurd k h⟩, rfl, hb⟩
theorem TvPost.yes {ver : Int} {l : List Blk} {n : Nat} {w w' : World} (h : TblOk ver l n) (hb : Below w.heap.size w w') : TvPost ver l n w (.returned (.bool true)) w' := ⟨true, ⟨fun _ => h, fun _ => rfl⟩, rfl, hb⟩
theorem tv_iff {ver : Int} {l : List Blk} {n : Nat} {v v' : Bool} (h : v = true ↔ TblOk ver l n) (h' : v' = true ↔ TblOk ver l n) : v = v' := by
  cases v <;> cases v'
  · rfl
  · exact absurd (h.2 (h'.1 rfl)) (by simp)
  · exact absurd (h'.2 (h.1 rfl)) (by simp)
  · rfl

/-! What a region keeps. -/
theorem tk2_start {W w : World} {a0 a1 t0 t1 : Addr} {v0 v1 u0 u1 : Value} (h : Kept W w [(a0, v0), (a1, v1), (t0, u0), (t1, u1)]) : w.drew.cell? a0 = some v0 ∧ w.drew.cell? a1 = some v1 ∧ Kept W w.drew [(a0, v0), (a1, v1), (t0, u0), (t1, u1)] :=
  have k := h.drew
  ⟨k.get 0 rfl, k.get 1 rfl, k⟩
theorem tk2_keep {W w w' : World} {a0 a1 t0 t1 : Addr} {v0 v1 u0 u1 : Value} (h : w.cell? a0 = some v0 ∧ w.cell? a1 = some v1 ∧ Kept W w [(a0, v0), (a1, v1), (t0, u0), (t1, u1)]) (hb : Below w.heap.size w w') : w'.cell? a0 = some v0 ∧ w'.cell? a1 = some v1 ∧ Kept W w' [(a0, v0), (a1, v1), (t0, u0), (t1, u1)] :=
  have k := h.2.2.step hb
  ⟨k.get 0 rfl, k.get 1 rfl, k⟩
theorem tk4_start {W w : World} {a0 a1 t0 t1 x : Addr} {v0 v1 u0 u1 y : Value} (h : Kept W w [(a0, v0), (a1, v1), (t0, u0), (t1, u1)]) (ha : w.cell? x = some y) : w.drew.cell? a0 = some v0 ∧ w.drew.cell? a1 = some v1 ∧ w.drew.cell? t1 = some u1 ∧ w.drew.cell? x = some y ∧ Kept W w.drew [(a0, v0), (a1, v1), (t0, u0), (t1, u1)] :=
  have k := h.drew
  ⟨k.get 0 rfl, k.get 1 rfl, k.get 3 rfl, ha, k⟩
theorem tk4_keep {W w w' : World} {a0 a1 t0 t1 x : Addr} {v0 v1 u0 u1 y : Value} (h : w.cell? a0 = some v0 ∧ w.cell? a1 = some v1 ∧ w.cell? t1 = some u1 ∧ w.cell? x = some y ∧ Kept W w [(a0, v0), (a1, v1), (t0, u0), (t1, u1)]) (hb : Below w.heap.size w w') : w'.cell? a0 = some v0 ∧ w'.cell? a1 = some v1 ∧ w'.cell? t1 = some u1 ∧ w'.cell? x = some y ∧ Kept W w' [(a0, v0), (a1, v1), (t0, u0), (t1, u1)] :=
  have k := h.2.2.2.2.step hb
  ⟨k.get 0 rfl, k.get 1 rfl, k.get 3 rfl, by rw [hb.cell (World.block_lt_of_cell? w _ h.2.2.2.1)]; exact h.2.2.2.1, k⟩
theorem tq4_start {W w : World} {a0 a1 t0 t1 x : Addr} {v0 v1 u0 u1 y : Value} (h : Kept W w [(a0, v0), (a1, v1), (t0, u0), (t1, u1)]) (ha : w.cell? x = some y) : w.drew.cell? t0 = some u0 ∧ w.drew.cell? t1 = some u1 ∧ w.drew.cell? a1 = some v1 ∧ w.drew.cell? x = some y ∧ Kept W w.drew [(a0, v0), (a1, v1), (t0, u0), (t1, u1)] :=
  have k := h.drew
  ⟨k.get 2 rfl, k.get 3 rfl, k.get 1 rfl, ha, k⟩
theorem tq4_keep {W w w' : World} {a0 a1 t0 t1 x : Addr} {v0 v1 u0 u1 y : Value} (h : w.cell? t0 = some u0 ∧ w.cell? t1 = some u1 ∧ w.cell? a1 = some v1 ∧ w.cell? x = some y ∧ Kept W w [(a0, v0), (a1, v1), (t0, u0), (t1, u1)]) (hb : Below w.heap.size w w') : w'.cell? t0 = some u0 ∧ w'.cell? t1 = some u1 ∧ w'.cell? a1 = some v1 ∧ w'.cell? x = some y ∧ Kept W w' [(a0, v0), (a1, v1), (t0, u0), (t1, u1)] :=
  have k := h.2.2.2.2.step hb
  ⟨k.get 2 rfl, k.get 3 rfl, k.get 1 rfl, by rw [hb.cell (World.block_lt_of_cell? w _ h.2.2.2.1)]; exact h.2.2.2.1, k⟩

set_option maxRecDepth 8000 in
set_option maxHeartbeats 12800000 in
theorem spec_tv (ver : Int) (ao : Option Addr) (n cap : Nat) (l : List Blk) (w : World) (hl : l.length = n) (hn : n ≤ 1048576) (hr : ∀ k, k < n → (Bn l k).rows.length ≤ 1048576) (hV : BlksVal w ao l) :
    Calls Try.prog 76 #[.agg #[.int .i64 ver, .slice ao n cap]] w (TvPost ver l n w) := by
  have HV := Lib.hid hV
  have HL := Lib.hid hl
  have HR := Lib.hid hr
  clear hV hl hr
  have hnI : (n : Int) ≤ 1048576 := by omega
  go_enter Try.func76, Try.ntmps76
  go_wp2_with fail
  have K0 := (Kept.start w).alloc2 (.int .i64 ver) (.slice ao n cap) 32 _ rfl
  go_loopw [3] (fun iv wr => ∃ k : Nat, k ≤ n ∧ iv = .int .i64 k ∧ Hid (BlksOk l k) ∧ Hid (UniqR l k) ∧ Hid (Kept w wr [(⟨w.heap.size, 0, none⟩, .int .i64 ver), (⟨w.heap.size, 1, none⟩, .slice ao n cap)])) (fun iv _ => n - (intOf iv).toNat)
  case atStart => exact ⟨0, Nat.zero_le _, rfl, Lib.hid (BlksOk.zero l), Lib.hid (UniqR.zero l), K0⟩
  case round =>
    clear K0
    obtain ⟨k, hk, rfl, HA, HU, HK⟩ := hrel
    have b0 := HK.out.get 0 rfl
    have b1 := HK.out.get 1 rfl
    by_cases hlt : k < n
    · have hkI : (k : Int) < (n : Int) := by omega
      have kk := HK.out.1
      obtain ⟨g, rfl, hg, hBk⟩ := HV.out.head HL.out (by omega)
      obtain ⟨rao, rcap, c0, c1, hRV0⟩ := hBk k hlt
      have hRV := hRV0.below kk
      have c0 := (kk.cell (p := ⟨g, k * 2, none⟩) hg).trans c0
      have c1 := (kk.cell (p := ⟨g, k * 2 + 1, none⟩) hg).trans c1
      have HRW := Lib.hid hRV0
      have hrl := HR.out k hlt
      have HNV := Lib.hid (show bkB l k = false → ¬ TblOk ver l n from fun h1 h2 => by have := h2.2.2.1.1 k hlt; rw [h1] at this; cases this)
      have HYV := Lib.hid (show bkB l k = true → (∀ j, j + 1 = k → (Bn l j).id < (Bn l (j + 1)).id) → BlksOk l (k + 1) from fun h1 h2 => HA.out.succ h1 h2)
      have HNO := Lib.hid (show ∀ j, k = j + 1 → ¬ (Bn l j).id < (Bn l k).id → ¬ TblOk ver l n from fun j e h1 h2 => by subst e; exact h1 (h2.2.2.1.2 j hlt))
      have HUN := Lib.hid (show ∀ x, HasRow (Bn l k).rows x → (∃ i, i < k ∧ HasRow (Bn l i).rows x) → ¬ TblOk ver l n from fun x h1 ⟨i, hi, h2⟩ h3 => h3.2.2.2 k hlt i hi x h1 h2)
      have HUS := Lib.hid (show (∀ i, i < k → ∀ x, HasRow (Bn l k).rows x → ¬ HasRow (Bn l i).rows x) → UniqR l (k + 1) from fun h => HU.out.succ h)
      have HHR := Lib.hid (show ∀ x, HasRow (Bn l k).rows x → (∀ i, i < k → ¬ HasRow (Bn l i).rows x) → FirstAns (fun k => HasRow (Bn l k).rows x) n (k : Int) from fun x h1 h2 => firstAns_here hlt h1 h2)
      have D0 := fun w hV => spec_bvV (Bn l k).id rao (Bn l k).rows.length rcap (Rn (Bn l k).rows) w hrl hV
      rw [show blkB (Bn l k).id (Bn l k).rows.length (Rn (Bn l k).rows) = bkB l k from rfl] at D0
      obtain ⟨vb, hvb⟩ : ∃ vb, vb = bkB l k := ⟨_, rfl⟩
      rw [← hvb] at HNV HYV D0
      obtain ⟨bk, hbk⟩ : ∃ bk, bk = Bn l k := ⟨_, rfl⟩
      have HBK := Lib.hid hbk
      rw [← hbk] at c0 c1 hRV HRW hrl HNO D0 HUN HUS HHR
      obtain ⟨m, hm⟩ : ∃ m, m = bk.rows.length := ⟨_, rfl⟩
      have HM := Lib.hid hm
      rw [← hm] at c1 hRV HRW hrl D0
      have hB0 := (Below.refl wr.heap.size wr).alloc (Nat.le_refl _) (.cells #[.int .i64 bk.id, .slice rao m rcap] 80)
      have HRD := Lib.hid (show RowsVal (wr.alloc (.cells #[.int .i64 bk.id, .slice rao m rcap] 80)).drew rao m (Rn bk.rows) from hRV.below hB0.drew)
      obtain ⟨bx, hbx⟩ : ∃ bx, wr.heap.size = bx := ⟨_, rfl⟩
      have HKB := Lib.hid (show Kept w (wr.alloc (.cells #[.int .i64 bk.id, .slice rao m rcap] 80)) [(⟨bx, 0, none⟩, .int .i64 bk.id), (⟨bx, 1, none⟩, .slice rao m rcap), (⟨w.heap.size, 0, none⟩, .int .i64 ver), (⟨w.heap.size, 1, none⟩, .slice (some ⟨g, 0, none⟩) n cap)] from HK.out.alloc2 _ _ _ _ hbx)
      have HPV := Lib.hid hBk
      have hmI : (m : Int) ≤ 1048576 := by omega
      clear hB0 hRV hRV0 hvb hbk hm hBk kk
      cases vb
      · have AN := Lib.hid (HNV.out rfl)
        have DV := Lib.hid D0
        clear D0
        go_wp2_with fail
        try rw [hbx]
        refine wp_region_held_drew (S := fun w' => w'.cell? ⟨bx, 0, none⟩ = some (.int .i64 bk.id) ∧ w'.cell? ⟨bx, 1, none⟩ = some (.slice rao m rcap) ∧ Kept w w' [(⟨bx, 0, none⟩, .int .i64 bk.id), (⟨bx, 1, none⟩, .slice rao m rcap), (⟨w.heap.size, 0, none⟩, .int .i64 ver), (⟨w.heap.size, 1, none⟩, .slice (some ⟨g, 0, none⟩) n cap)]) (by kernel_rfl) (tk2_start HKB.out) (fun hHeld => ?_)
        refine wpAnyH_take (i := 0) (oi := { dst := some 18, op := Go.Op.load 80 (Go.Operand.tmp 4), type := 80, pos := "l06_table.go:28", after := #[], guard := none }) (v := .agg #[.int .i64 bk.id, .slice rao m rcap]) rfl (by kernel_rfl) (by kernel_rfl) (by kernel_rfl) (fun _ _ _ h => h) (Or.inl ⟨by rfl, ?_⟩) (by assumption) ?_
        · intro w8 hS8
          (try dsimp only at hS8)
          go_simp
        try simp only [Act.put, List.setIfInBounds_toArray, List.set_cons_zero, List.set_cons_succ]
        refine wpAnyH_ready (rs := [1]) (by kernel_rfl) (by simp) ?_
        refine AllReadyH.cons (o := { dst := some 19, op := Go.Op.call { callee := Go.Callee.value (Go.Operand.func 108), args := #[Go.Operand.tmp 18], argTypes := #[80] }, type := 4, pos := "l06_table.go:28", after := #[{ on := 0, ground := Go.Ground.data }], guard := none }) rfl (fun K hK => ?_) AllReadyH.nil
        go_simp
        go_at_call 108
        (with_reducible refine (DV.out _ HRD.out).mono ?_)
        rintro e9 w9 ⟨rfl, hb⟩
        refine hK.out _ _ ?_ (fun hH1 => ?_)
        · exact tk2_keep hHeld hb
        clear hK K
        try simp only [Act.put, List.setIfInBounds_toArray, List.set_cons_zero, List.set_cons_succ]
        refine wpAnyH_take (i := 2) (oi := { dst := some 20, op := Go.Op.unOp UnOp.not 4 (Go.Operand.tmp 19), type := 4, pos := "l06_table.go:28", after := #[{ on := 1, ground := Go.Ground.data }], guard := none }) (v := .bool true) rfl (by kernel_rfl) (by kernel_rfl) (by kernel_rfl) (fun _ _ _ h => h) (Or.inl ⟨by rfl, ?_⟩) (by assumption) ?_
        · intro w8 hS8
          (try dsimp only at hS8)
          go_simp
        try simp only [Act.put, List.setIfInBounds_toArray, List.set_cons_zero, List.set_cons_succ]
        refine wpAnyH_take (i := 3) (oi := { dst := some 21, op := Go.Op.move (Go.Operand.tmp 20), type := 4, pos := "l06_table.go:28", after := #[{ on := 2, ground := Go.Ground.data }, { on := 1, ground := Go.Ground.chain }], guard := none }) (v := .bool true) rfl (by kernel_rfl) (by kernel_rfl) (by kernel_rfl) (fun _ _ _ h => h) (Or.inl ⟨by rfl, ?_⟩) (by assumption) ?_
        · intro w8 hS8
          (try dsimp only at hS8)
          go_simp
        try simp only [Act.put, List.setIfInBounds_toArray, List.set_cons_zero, List.set_cons_succ]
        refine held_skip (i := 4) (oi := { dst := some 22, op := Go.Op.move (Go.Operand.tmp 3), type := 3, pos := "l06_table.go:28", after := #[{ on := 3, ground := Go.Ground.guard }], guard := some (3, false) }) rfl (by kernel_rfl) (by kernel_rfl) (by kernel_rfl) (fun _ _ _ h => h) (by rfl) (by assumption) ?_
        try simp only [Act.put, List.setIfInBounds_toArray, List.set_cons_zero, List.set_cons_succ]
        refine held_skip (i := 5) (oi := { dst := some 23, op := Go.Op.binOp BinOp.gtr 3 (Go.Operand.tmp 22) (Go.Operand.const (Go.Value.int Go.IntKind.i64 0)) 3, type := 4, pos := "l06_table.go:28", after := #[{ on := 4, ground := Go.Ground.data }, { on := 3, ground := Go.Ground.guard }], guard := some (3, false) }) rfl (by kernel_rfl) (by kernel_rfl) (by kernel_rfl) (fun _ _ _ h => h) (by rfl) (by assumption) ?_
        try simp only [Act.put, List.setIfInBounds_toArray, List.set_cons_zero, List.set_cons_succ]
        refine held_skip (i := 6) (oi := { dst := some 24, op := Go.Op.move (Go.Operand.tmp 23), type := 4, pos := "l06_table.go:28", after := #[{ on := 5, ground := Go.Ground.data }, { on := 3, ground := Go.Ground.chain }, { on := 3, ground := Go.Ground.guard }], guard := some (3, false) }) rfl (by kernel_rfl) (by kernel_rfl) (by kernel_rfl) (fun _ _ _ h => h) (by rfl) (by assumption) ?_
        try simp only [Act.put, List.setIfInBounds_toArray, List.set_cons_zero, List.set_cons_succ]
        refine held_skip (i := 7) (oi := { dst := some 25, op := Go.Op.fieldAddr 32 (Go.Operand.tmp 1) 1, type := 0, pos := "l06_table.go:28", after := #[{ on := 6, ground := Go.Ground.guard }], guard := some (6, true) }) rfl (by kernel_rfl) (by kernel_rfl) (by kernel_rfl) (fun _ _ _ h => h) (by rfl) (by assumption) ?_
        try simp only [Act.put, List.setIfInBounds_toArray, List.set_cons_zero, List.set_cons_succ]
        refine held_skip (i := 8) (oi := { dst := some 26, op := Go.Op.load 30 (Go.Operand.tmp 25), type := 30, pos := "l06_table.go:28", after := #[{ on := 7, ground := Go.Ground.data }, { on := 6, ground := Go.Ground.guard }], guard := some (6, true) }) rfl (by kernel_rfl) (by kernel_rfl) (by kernel_rfl) (fun _ _ _ h => h) (by rfl) (by assumption) ?_
        try simp only [Act.put, List.setIfInBounds_toArray, List.set_cons_zero, List.set_cons_succ]
        refine held_skip (i := 9) (oi := { dst := some 27, op := Go.Op.move (Go.Operand.tmp 3), type := 3, pos := "l06_table.go:28", after := #[{ on := 6, ground := Go.Ground.guard }], guard := some (6, true) }) rfl (by kernel_rfl) (by kernel_rfl) (by kernel_rfl) (fun _ _ _ h => h) (by rfl) (by assumption) ?_
        try simp only [Act.put, List.setIfInBounds_toArray, List.set_cons_zero, List.set_cons_succ]
        refine held_skip (i := 10) (oi := { dst := some 28, op := Go.Op.binOp BinOp.sub 3 (Go.Operand.tmp 27) (Go.Operand.const (Go.Value.int Go.IntKind.i64 1)) 3, type := 3, pos := "l06_table.go:28", after := #[{ on := 9, ground := Go.Ground.data }, { on := 6, ground := Go.Ground.guard }], guard := some (6, true) }) rfl (by kernel_rfl) (by kernel_rfl) (by kernel_rfl) (fun _ _ _ h => h) (by rfl) (by assumption) ?_
        try simp only [Act.put, List.setIfInBounds_toArray, List.set_cons_zero, List.set_cons_succ]
        refine held_skip (i := 11) (oi := { dst := some 29, op := Go.Op.indexAddr 30 (Go.Operand.tmp 26) (Go.Operand.tmp 28), type := 0, pos := "l06_table.go:28", after := #[{ on := 8, ground := Go.Ground.data }, { on := 10, ground := Go.Ground.data }, { on := 6, ground := Go.Ground.guard }], guard := some (6, true) }) rfl (by kernel_rfl) (by kernel_rfl) (by kernel_rfl) (fun _ _ _ h => h) (by rfl) (by assumption) ?_
        try simp only [Act.put, List.setIfInBounds_toArray, List.set_cons_zero, List.set_cons_succ]
        refine held_skip (i := 12) (oi := { dst := some 30, op := Go.Op.fieldAddr 80 (Go.Operand.tmp 29) 0, type := 0, pos := "l06_table.go:28", after := #[{ on := 11, ground := Go.Ground.data }, { on := 6, ground := Go.Ground.guard }], guard := some (6, true) }) rfl (by kernel_rfl) (by kernel_rfl) (by kernel_rfl) (fun _ _ _ h => h) (by rfl) (by assumption) ?_
        try simp only [Act.put, List.setIfInBounds_toArray, List.set_cons_zero, List.set_cons_succ]
        refine held_skip (i := 13) (oi := { dst := some 31, op := Go.Op.load 3 (Go.Operand.tmp 30), type := 3, pos := "l06_table.go:28", after := #[{ on := 12, ground := Go.Ground.data }, { on := 6, ground := Go.Ground.guard }], guard := some (6, true) }) rfl (by kernel_rfl) (by kernel_rfl) (by kernel_rfl) (fun _ _ _ h => h) (by rfl) (by assumption) ?_
        try simp only [Act.put, List.setIfInBounds_toArray, List.set_cons_zero, List.set_cons_succ]
        refine held_skip (i := 14) (oi := { dst := some 32, op := Go.Op.fieldAddr 80 (Go.Operand.tmp 4) 0, type := 0, pos := "l06_table.go:28", after := #[{ on := 6, ground := Go.Ground.guard }], guard := some (6, true) }) rfl (by kernel_rfl) (by kernel_rfl) (by kernel_rfl) (fun _ _ _ h => h) (by rfl) (by assumption) ?_
        try simp only [Act.put, List.setIfInBounds_toArray, List.set_cons_zero, List.set_cons_succ]
        refine held_skip (i := 15) (oi := { dst := some 33, op := Go.Op.load 3 (Go.Operand.tmp 32), type := 3, pos := "l06_table.go:28", after := #[{ on := 14, ground := Go.Ground.data }, { on := 6, ground := Go.Ground.guard }], guard := some (6, true) }) rfl (by kernel_rfl) (by kernel_rfl) (by kernel_rfl) (fun _ _ _ h => h) (by rfl) (by assumption) ?_
        try simp only [Act.put, List.setIfInBounds_toArray, List.set_cons_zero, List.set_cons_succ]
        refine held_skip (i := 16) (oi := { dst := some 34, op := Go.Op.binOp BinOp.geq 3 (Go.Operand.tmp 31) (Go.Operand.tmp 33) 3, type := 4, pos := "l06_table.go:28", after := #[{ on := 13, ground := Go.Ground.data }, { on := 15, ground := Go.Ground.data }, { on := 6, ground := Go.Ground.guard }], guard := some (6, true) }) rfl (by kernel_rfl) (by kernel_rfl) (by kernel_rfl) (fun _ _ _ h => h) (by rfl) (by assumption) ?_
        try simp only [Act.put, List.setIfInBounds_toArray, List.set_cons_zero, List.set_cons_succ]
        refine held_skip (i := 17) (oi := { dst := some 35, op := Go.Op.pick (Go.Operand.tmp 24) (Go.Operand.tmp 34) (Go.Operand.const (Go.Value.bool false)), type := 4, pos := "l06_table.go:28", after := #[{ on := 6, ground := Go.Ground.data }, { on := 16, ground := Go.Ground.data }, { on := 3, ground := Go.Ground.guard }], guard := some (3, false) }) rfl (by kernel_rfl) (by kernel_rfl) (by kernel_rfl) (fun _ _ _ h => h) (by rfl) (by assumption) ?_
        try simp only [Act.put, List.setIfInBounds_toArray, List.set_cons_zero, List.set_cons_succ]
        refine wpAnyH_take (i := 18) (oi := { dst := some 36, op := Go.Op.pick (Go.Operand.tmp 21) (Go.Operand.const (Go.Value.bool true)) (Go.Operand.tmp 35), type := 4, pos := "l06_table.go:28", after := #[{ on := 3, ground := Go.Ground.data }, { on := 17, ground := Go.Ground.data }], guard := none }) (v := .bool true) rfl (by kernel_rfl) (by kernel_rfl) (by kernel_rfl) (fun _ _ _ h => h) (Or.inl ⟨by rfl, ?_⟩) (by assumption) ?_
        · intro w8 hS8
          (try dsimp only at hS8)
          go_simp
        try simp only [Act.put, List.setIfInBounds_toArray, List.set_cons_zero, List.set_cons_succ]
        refine wpAnyH_done (by kernel_rfl) ?_ _
        go_wp2
        go_ret
        exact TvPost.no AN.out hH1.2.2.1
      · have DV := Lib.hid D0
        clear D0
        by_cases h0 : k = 0
        · have hz : decide ((0 : Int) < (k : Int)) = false := decide_eq_false (by omega)
          have H0 := Lib.hid h0
          have AN := Lib.hid (HYV.out rfl (fun j e => by omega))
          clear h0
          go_wp2_with fail
          try rw [hbx]
          refine wp_region_held_drew (S := fun w' => w'.cell? ⟨bx, 0, none⟩ = some (.int .i64 bk.id) ∧ w'.cell? ⟨bx, 1, none⟩ = some (.slice rao m rcap) ∧ Kept w w' [(⟨bx, 0, none⟩, .int .i64 bk.id), (⟨bx, 1, none⟩, .slice rao m rcap), (⟨w.heap.size, 0, none⟩, .int .i64 ver), (⟨w.heap.size, 1, none⟩, .slice (some ⟨g, 0, none⟩) n cap)]) (by kernel_rfl) (tk2_start HKB.out) (fun hHeld => ?_)
          refine wpAnyH_take (i := 0) (oi := { dst := some 18, op := Go.Op.load 80 (Go.Operand.tmp 4), type := 80, pos := "l06_table.go:28", after := #[], guard := none }) (v := .agg #[.int .i64 bk.id, .slice rao m rcap]) rfl (by kernel_rfl) (by kernel_rfl) (by kernel_rfl) (fun _ _ _ h => h) (Or.inl ⟨by rfl, ?_⟩) (by assumption) ?_
          · intro w8 hS8
            (try dsimp only at hS8)
            go_simp
          try simp only [Act.put, List.setIfInBounds_toArray, List.set_cons_zero, List.set_cons_succ]
          refine wpAnyH_ready (rs := [1]) (by kernel_rfl) (by simp) ?_
          refine AllReadyH.cons (o := { dst := some 19, op := Go.Op.call { callee := Go.Callee.value (Go.Operand.func 108), args := #[Go.Operand.tmp 18], argTypes := #[80] }, type := 4, pos := "l06_table.go:28", after := #[{ on := 0, ground := Go.Ground.data }], guard := none }) rfl (fun K hK => ?_) AllReadyH.nil
          go_simp
          go_at_call 108
          (with_reducible refine (DV.out _ HRD.out).mono ?_)
          rintro e9 w9 ⟨rfl, hb⟩
          refine hK.out _ _ ?_ (fun hH1 => ?_)
          · exact tk2_keep hHeld hb
          clear hK K
          try simp only [Act.put, List.setIfInBounds_toArray, List.set_cons_zero, List.set_cons_succ]
          refine wpAnyH_take (i := 2) (oi := { dst := some 20, op := Go.Op.unOp UnOp.not 4 (Go.Operand.tmp 19), type := 4, pos := "l06_table.go:28", after := #[{ on := 1, ground := Go.Ground.data }], guard := none }) (v := .bool false) rfl (by kernel_rfl) (by kernel_rfl) (by kernel_rfl) (fun _ _ _ h => h) (Or.inl ⟨by rfl, ?_⟩) (by assumption) ?_
          · intro w8 hS8
            (try dsimp only at hS8)
            go_simp
          try simp only [Act.put, List.setIfInBounds_toArray, List.set_cons_zero, List.set_cons_succ]
          refine wpAnyH_take (i := 3) (oi := { dst := some 21, op := Go.Op.move (Go.Operand.tmp 20), type := 4, pos := "l06_table.go:28", after := #[{ on := 2, ground := Go.Ground.data }, { on := 1, ground := Go.Ground.chain }], guard := none }) (v := .bool false) rfl (by kernel_rfl) (by kernel_rfl) (by kernel_rfl) (fun _ _ _ h => h) (Or.inl ⟨by rfl, ?_⟩) (by assumption) ?_
          · intro w8 hS8
            (try dsimp only at hS8)
            go_simp
          try simp only [Act.put, List.setIfInBounds_toArray, List.set_cons_zero, List.set_cons_succ]
          refine wpAnyH_take (i := 4) (oi := { dst := some 22, op := Go.Op.move (Go.Operand.tmp 3), type := 3, pos := "l06_table.go:28", after := #[{ on := 3, ground := Go.Ground.guard }], guard := some (3, false) }) (v := .int .i64 k) rfl (by kernel_rfl) (by kernel_rfl) (by kernel_rfl) (fun _ _ _ h => h) (Or.inl ⟨by rfl, ?_⟩) (by assumption) ?_
          · intro w8 hS8
            (try dsimp only at hS8)
            go_simp
          try simp only [Act.put, List.setIfInBounds_toArray, List.set_cons_zero, List.set_cons_succ]
          refine wpAnyH_take (i := 5) (oi := { dst := some 23, op := Go.Op.binOp BinOp.gtr 3 (Go.Operand.tmp 22) (Go.Operand.const (Go.Value.int Go.IntKind.i64 0)) 3, type := 4, pos := "l06_table.go:28", after := #[{ on := 4, ground := Go.Ground.data }, { on := 3, ground := Go.Ground.guard }], guard := some (3, false) }) (v := .bool false) rfl (by kernel_rfl) (by kernel_rfl) (by kernel_rfl) (fun _ _ _ h => h) (Or.inl ⟨by rfl, ?_⟩) (by assumption) ?_
          · intro w8 hS8
            (try dsimp only at hS8)
            (first | (go_simp; done) | (go_simp; exact H0.out))
          try simp only [Act.put, List.setIfInBounds_toArray, List.set_cons_zero, List.set_cons_succ]
          refine wpAnyH_take (i := 6) (oi := { dst := some 24, op := Go.Op.move (Go.Operand.tmp 23), type := 4, pos := "l06_table.go:28", after := #[{ on := 5, ground := Go.Ground.data }, { on := 3, ground := Go.Ground.chain }, { on := 3, ground := Go.Ground.guard }], guard := some (3, false) }) (v := .bool false) rfl (by kernel_rfl) (by kernel_rfl) (by kernel_rfl) (fun _ _ _ h => h) (Or.inl ⟨by rfl, ?_⟩) (by assumption) ?_
          · intro w8 hS8
            (try dsimp only at hS8)
            go_simp
          try simp only [Act.put, List.setIfInBounds_toArray, List.set_cons_zero, List.set_cons_succ]
          refine held_skip (i := 7) (oi := { dst := some 25, op := Go.Op.fieldAddr 32 (Go.Operand.tmp 1) 1, type := 0, pos := "l06_table.go:28", after := #[{ on := 6, ground := Go.Ground.guard }], guard := some (6, true) }) rfl (by kernel_rfl) (by kernel_rfl) (by kernel_rfl) (fun _ _ _ h => h) (by rfl) (by assumption) ?_
          try simp only [Act.put, List.setIfInBounds_toArray, List.set_cons_zero, List.set_cons_succ]
          refine held_skip (i := 8) (oi := { dst := some 26, op := Go.Op.load 30 (Go.Operand.tmp 25), type := 30, pos := "l06_table.go:28", after := #[{ on := 7, ground := Go.Ground.data }, { on := 6, ground := Go.Ground.guard }], guard := some (6, true) }) rfl (by kernel_rfl) (by kernel_rfl) (by kernel_rfl) (fun _ _ _ h => h) (by rfl) (by assumption) ?_
          try simp only [Act.put, List.setIfInBounds_toArray, List.set_cons_zero, List.set_cons_succ]
          refine held_skip (i := 9) (oi := { dst := some 27, op := Go.Op.move (Go.Operand.tmp 3), type := 3, pos := "l06_table.go:28", after := #[{ on := 6, ground := Go.Ground.guard }], guard := some (6, true) }) rfl (by kernel_rfl) (by kernel_rfl) (by kernel_rfl) (fun _ _ _ h => h) (by rfl) (by assumption) ?_
          try simp only [Act.put, List.setIfInBounds_toArray, List.set_cons_zero, List.set_cons_succ]
          refine held_skip (i := 10) (oi := { dst := some 28, op := Go.Op.binOp BinOp.sub 3 (Go.Operand.tmp 27) (Go.Operand.const (Go.Value.int Go.IntKind.i64 1)) 3, type := 3, pos := "l06_table.go:28", after := #[{ on := 9, ground := Go.Ground.data }, { on := 6, ground := Go.Ground.guard }], guard := some (6, true) }) rfl (by kernel_rfl) (by kernel_rfl) (by kernel_rfl) (fun _ _ _ h => h) (by rfl) (by assumption) ?_
          try simp only [Act.put, List.setIfInBounds_toArray, List.set_cons_zero, List.set_cons_succ]
          refine held_skip (i := 11) (oi := { dst := some 29, op := Go.Op.indexAddr 30 (Go.Operand.tmp 26) (Go.Operand.tmp 28), type := 0, pos := "l06_table.go:28", after := #[{ on := 8, ground := Go.Ground.data }, { on := 10, ground := Go.Ground.data }, { on := 6, ground := Go.Ground.guard }], guard := some (6, true) }) rfl (by kernel_rfl) (by kernel_rfl) (by kernel_rfl) (fun _ _ _ h => h) (by rfl) (by assumption) ?_
          try simp only [Act.put, List.setIfInBounds_toArray, List.set_cons_zero, List.set_cons_succ]
          refine held_skip (i := 12) (oi := { dst := some 30, op := Go.Op.fieldAddr 80 (Go.Operand.tmp 29) 0, type := 0, pos := "l06_table.go:28", after := #[{ on := 11, ground := Go.Ground.data }, { on := 6, ground := Go.Ground.guard }], guard := some (6, true) }) rfl (by kernel_rfl) (by kernel_rfl) (by kernel_rfl) (fun _ _ _ h => h) (by rfl) (by assumption) ?_
          try simp only [Act.put, List.setIfInBounds_toArray, List.set_cons_zero, List.set_cons_succ]
          refine held_skip (i := 13) (oi := { dst := some 31, op := Go.Op.load 3 (Go.Operand.tmp 30), type := 3, pos := "l06_table.go:28", after := #[{ on := 12, ground := Go.Ground.data }, { on := 6, ground := Go.Ground.guard }], guard := some (6, true) }) rfl (by kernel_rfl) (by kernel_rfl) (by kernel_rfl) (fun _ _ _ h => h) (by rfl) (by assumption) ?_
          try simp only [Act.put, List.setIfInBounds_toArray, List.set_cons_zero, List.set_cons_succ]
          refine held_skip (i := 14) (oi := { dst := some 32, op := Go.Op.fieldAddr 80 (Go.Operand.tmp 4) 0, type := 0, pos := "l06_table.go:28", after := #[{ on := 6, ground := Go.Ground.guard }], guard := some (6, true) }) rfl (by kernel_rfl) (by kernel_rfl) (by kernel_rfl) (fun _ _ _ h => h) (by rfl) (by assumption) ?_
          try simp only [Act.put, List.setIfInBounds_toArray, List.set_cons_zero, List.set_cons_succ]
          refine held_skip (i := 15) (oi := { dst := some 33, op := Go.Op.load 3 (Go.Operand.tmp 32), type := 3, pos := "l06_table.go:28", after := #[{ on := 14, ground := Go.Ground.data }, { on := 6, ground := Go.Ground.guard }], guard := some (6, true) }) rfl (by kernel_rfl) (by kernel_rfl) (by kernel_rfl) (fun _ _ _ h => h) (by rfl) (by assumption) ?_
          try simp only [Act.put, List.setIfInBounds_toArray, List.set_cons_zero, List.set_cons_succ]
          refine held_skip (i := 16) (oi := { dst := some 34, op := Go.Op.binOp BinOp.geq 3 (Go.Operand.tmp 31) (Go.Operand.tmp 33) 3, type := 4, pos := "l06_table.go:28", after := #[{ on := 13, ground := Go.Ground.data }, { on := 15, ground := Go.Ground.data }, { on := 6, ground := Go.Ground.guard }], guard := some (6, true) }) rfl (by kernel_rfl) (by kernel_rfl) (by kernel_rfl) (fun _ _ _ h => h) (by rfl) (by assumption) ?_
          try simp only [Act.put, List.setIfInBounds_toArray, List.set_cons_zero, List.set_cons_succ]
          refine wpAnyH_take (i := 17) (oi := { dst := some 35, op := Go.Op.pick (Go.Operand.tmp 24) (Go.Operand.tmp 34) (Go.Operand.const (Go.Value.bool false)), type := 4, pos := "l06_table.go:28", after := #[{ on := 6, ground := Go.Ground.data }, { on := 16, ground := Go.Ground.data }, { on := 3, ground := Go.Ground.guard }], guard := some (3, false) }) (v := .bool false) rfl (by kernel_rfl) (by kernel_rfl) (by kernel_rfl) (fun _ _ _ h => h) (Or.inl ⟨by rfl, ?_⟩) (by assumption) ?_
          · intro w8 hS8
            (try dsimp only at hS8)
            go_simp
          try simp only [Act.put, List.setIfInBounds_toArray, List.set_cons_zero, List.set_cons_succ]
          refine wpAnyH_take (i := 18) (oi := { dst := some 36, op := Go.Op.pick (Go.Operand.tmp 21) (Go.Operand.const (Go.Value.bool true)) (Go.Operand.tmp 35), type := 4, pos := "l06_table.go:28", after := #[{ on := 3, ground := Go.Ground.data }, { on := 17, ground := Go.Ground.data }], guard := none }) (v := .bool false) rfl (by kernel_rfl) (by kernel_rfl) (by kernel_rfl) (fun _ _ _ h => h) (Or.inl ⟨by rfl, ?_⟩) (by assumption) ?_
          · intro w8 hS8
            (try dsimp only at hS8)
            go_simp
          try simp only [Act.put, List.setIfInBounds_toArray, List.set_cons_zero, List.set_cons_succ]
          refine wpAnyH_done (by kernel_rfl) ?_ _
          have HG2 := Lib.hid hH1.2.2
          clear hH1 hHeld HKB
          have HB9 := Lib.hid HG2
          clear hz hbx b0 b1 c0 c1 
          go_wp2_with fail
          go_loopw [5] (fun jv wr => ∃ j : Nat, j ≤ m ∧ jv = .int .i64 j ∧ Hid (∀ i, i < j → ∀ i', i' < k → ¬ HasRow (Bn l i').rows (Rn bk.rows i).i) ∧ Hid (Kept w wr [(⟨bx, 0, none⟩, .int .i64 bk.id), (⟨bx, 1, none⟩, .slice rao m rcap), (⟨w.heap.size, 0, none⟩, .int .i64 ver), (⟨w.heap.size, 1, none⟩, .slice (some ⟨g, 0, none⟩) n cap)])) (fun jv _ => m - (intOf jv).toNat)
          case atStart => exact ⟨0, Nat.zero_le _, rfl, Lib.hid (fun i hi => by omega), HG2⟩
          case round =>
            clear HG2 HB9
            obtain ⟨j, hj, rfl, HJ, HK2⟩ := hrel
            have d0 := HK2.out.get 0 rfl
            have d1 := HK2.out.get 1 rfl
            have d2 := HK2.out.get 2 rfl
            have d3 := HK2.out.get 3 rfl
            by_cases hjt : j < m
            · have hjI : (j : Int) < (m : Int) := by omega
              obtain ⟨h, rfl, hh, hRows⟩ : ∃ h, rao = some ⟨h, 0, none⟩ ∧ h < w.heap.size ∧ ∀ k, k < m → RowIn w h k (Rn bk.rows k) := HRW.out.resolve_left (by omega)
              have e0 := (HK2.out.1.cell (p := ⟨h, j * 5, none⟩) hh).trans (hRows j hjt).1
              have HAS := Lib.hid (show HasRow bk.rows (Rn bk.rows j).i from ⟨j, by rw [← HM.out]; exact hjt, rfl⟩)
              have HJS := Lib.hid (show (∀ i', i' < k → ¬ HasRow (Bn l i').rows (Rn bk.rows j).i) → ∀ i, i < j + 1 → ∀ i', i' < k → ¬ HasRow (Bn l i').rows (Rn bk.rows i).i from fun h1 i hi => by
                by_cases e : i < j
                · exact HJ.out i e
                · obtain rfl : i = j := by omega
                  exact h1)
              obtain ⟨rid, hrid⟩ : ∃ r, r = (Rn bk.rows j).i := ⟨_, rfl⟩
              rw [← hrid] at e0 HAS HJS
              have HE0 := Lib.hid e0
              have HHH := Lib.hid hh
              have SB := Lib.hid (fun w' (hb : Below w.heap.size w w') => spec_bor ver rid (some ⟨g, 0, none⟩) n cap l w' HL.out hn HR.out (HV.out.below hb))
              clear hRows hrid e0 hh d0 d1 d2 d3
              by_cases hex : ∃ i, i < k ∧ HasRow (Bn l i).rows rid
              · obtain ⟨v0, hF, hne⟩ := firstAns_less (p := fun k => HasRow (Bn l k).rows rid) hlt hex
                have q : (v0 != (k : Int)) = true := bne_iff_ne.2 hne
                have NO := Lib.hid (HUN.out rid HAS.out hex)
                have AN := Lib.hid hF
                clear hF hex hne
                have d0 := HK2.out.get 0 rfl
                have d1 := HK2.out.get 1 rfl
                have d2 := HK2.out.get 2 rfl
                have d3 := HK2.out.get 3 rfl
                go_wp2_with fail
                go_region_held3 (fun w' => w'.cell? ⟨w.heap.size, 0, none⟩ = some (.int .i64 ver) ∧ w'.cell? ⟨w.heap.size, 1, none⟩ = some (.slice (some ⟨g, 0, none⟩) n cap) ∧ w'.cell? ⟨bx, 1, none⟩ = some (.slice (some ⟨h, 0, none⟩) m rcap) ∧ w'.cell? ⟨h, j * 5, none⟩ = some (.int .i64 rid) ∧ Kept w w' [(⟨bx, 0, none⟩, .int .i64 bk.id), (⟨bx, 1, none⟩, .slice (some ⟨h, 0, none⟩) m rcap), (⟨w.heap.size, 0, none⟩, .int .i64 ver), (⟨w.heap.size, 1, none⟩, .slice (some ⟨g, 0, none⟩) n cap)]) (first | assumption | exact tq4_start HK2.out HE0.out | exact tq4_keep (by assumption) (by assumption)) (first | (go_simp; go_at_call 78; (with_reducible refine (SB.out _ ?_).mono ?_); (exact (‹_ ∧ _ ∧ _ ∧ _ ∧ Kept w _ _›).2.2.2.2.1); rintro e9 w9 ⟨⟨v, hv, rfl⟩, hb⟩; obtain rfl := FirstAns_unique hv AN.out; clear hv))
                all_goals
                  have HG3 := Lib.hid (‹_ ∧ _ ∧ _ ∧ _ ∧ Kept w w9 _›.2.2.2.2)
                  go_wp2
                  go_ret
                  exact TvPost.no NO.out HG3.out.1
              · have hF := HHR.out rid HAS.out (fun i hi h9 => hex ⟨i, hi, h9⟩)
                have q : ((k : Int) != (k : Int)) = false := bne_self_eq_false _
                have YE := Lib.hid (HJS.out (fun i hi h9 => hex ⟨i, hi, h9⟩))
                have AN := Lib.hid hF
                clear hF hex
                have d0 := HK2.out.get 0 rfl
                have d1 := HK2.out.get 1 rfl
                have d2 := HK2.out.get 2 rfl
                have d3 := HK2.out.get 3 rfl
                go_wp2_with fail
                go_region_held3 (fun w' => w'.cell? ⟨w.heap.size, 0, none⟩ = some (.int .i64 ver) ∧ w'.cell? ⟨w.heap.size, 1, none⟩ = some (.slice (some ⟨g, 0, none⟩) n cap) ∧ w'.cell? ⟨bx, 1, none⟩ = some (.slice (some ⟨h, 0, none⟩) m rcap) ∧ w'.cell? ⟨h, j * 5, none⟩ = some (.int .i64 rid) ∧ Kept w w' [(⟨bx, 0, none⟩, .int .i64 bk.id), (⟨bx, 1, none⟩, .slice (some ⟨h, 0, none⟩) m rcap), (⟨w.heap.size, 0, none⟩, .int .i64 ver), (⟨w.heap.size, 1, none⟩, .slice (some ⟨g, 0, none⟩) n cap)]) (first | assumption | exact tq4_start HK2.out HE0.out | exact tq4_keep (by assumption) (by assumption)) (first | (go_simp; go_at_call 78; (with_reducible refine (SB.out _ ?_).mono ?_); (exact (‹_ ∧ _ ∧ _ ∧ _ ∧ Kept w _ _›).2.2.2.2.1); rintro e9 w9 ⟨⟨v, hv, rfl⟩, hb⟩; obtain rfl := FirstAns_unique hv AN.out; clear hv))
                all_goals
                  have HG3 := Lib.hid (‹_ ∧ _ ∧ _ ∧ _ ∧ Kept w w9 _›.2.2.2.2)
                  obtain ⟨w7, hw7⟩ : ∃ w7, w7 = w9 := ⟨_, rfl⟩
                  clear HK2 d0 d1 d2 d3
                  subst hw7
                  go_wp2
                  go_roundw
                  case rel => exact ⟨j + 1, by omega, by go_num, YE, HG3⟩
                  case measure => simp [intOf]; omega
            · obtain rfl : j = m := by omega
              have hsd : decide ((j : Int) < (j : Int)) = false := decide_eq_false (by omega)
              have US := Lib.hid (HUS.out (fun i hi x ⟨r, hr, hx⟩ h9 => HJ.out r (by rw [HM.out]; exact hr) i hi (by rw [hx]; exact h9)))
              have KT := Lib.hid (HK2.out.sub (l' := [(⟨w.heap.size, 0, none⟩, .int .i64 ver), (⟨w.heap.size, 1, none⟩, .slice (some ⟨g, 0, none⟩) n cap)]) (by intro p9 hp9; simp only [List.mem_cons, List.not_mem_nil, or_false] at hp9; rcases hp9 with rfl | rfl <;> simp))
              go_wp2
              go_roundw
              case rel => exact ⟨k + 1, by omega, by go_num, AN, US, KT⟩
              case measure => simp [intOf]; omega
        · obtain ⟨p, hp⟩ : ∃ p, k = p + 1 := ⟨k - 1, by omega⟩
          obtain ⟨_, _, p0, _, _⟩ := HPV.out p (by omega)
          have HLT := Lib.hid (show (Bn l p).id < bk.id → BlksOk l (k + 1) from fun h1 => HYV.out rfl (fun i e => by
            obtain rfl : i = p := by omega
            rw [e, ← HBK.out]; exact h1))
          have HGE := Lib.hid (HNO.out p hp)
          obtain ⟨pid, hpid⟩ : ∃ q, q = (Bn l p).id := ⟨_, rfl⟩
          rw [← hpid] at p0 HLT HGE
          have HPM := Lib.hid (show (wr.alloc (.cells #[.int .i64 bk.id, .slice rao m rcap] 80)).cell? ⟨g, p * 2, none⟩ = some (.int .i64 pid) from cell_alloc_some _ ((HK.out.1.cell (p := ⟨g, p * 2, none⟩) hg).trans p0))
          have hz : 0 < k := by omega
          have hw9 : IntKind.i64.wrap ((k : Int) - 1) = (p : Int) := by rw [IntWalk.i64_in _ (by omega)]; omega
          have hpI : (p : Int) < (n : Int) := by omega
          have hp0 : (0 : Int) ≤ (p : Int) := by omega
          have HMK := Lib.hid hp
          clear h0 p0 hpid
          by_cases hl : pid < bk.id
          · have hq : decide (bk.id ≤ pid) = false := decide_eq_false (by omega)
            have AN := Lib.hid (HLT.out hl)
            clear hl hp
            go_wp2_with fail
            try rw [hbx]
            go_region_held3 (fun w' => w'.cell? ⟨bx, 0, none⟩ = some (.int .i64 bk.id) ∧ w'.cell? ⟨bx, 1, none⟩ = some (.slice rao m rcap) ∧ w'.cell? ⟨w.heap.size, 1, none⟩ = some (.slice (some ⟨g, 0, none⟩) n cap) ∧ w'.cell? ⟨g, p * 2, none⟩ = some (.int .i64 pid) ∧ Kept w w' [(⟨bx, 0, none⟩, .int .i64 bk.id), (⟨bx, 1, none⟩, .slice rao m rcap), (⟨w.heap.size, 0, none⟩, .int .i64 ver), (⟨w.heap.size, 1, none⟩, .slice (some ⟨g, 0, none⟩) n cap)]) (first | assumption | exact tk4_start HKB.out HPM.out | exact tk4_keep (by assumption) (by assumption)) (first | (go_simp; go_at_call 108; (with_reducible refine (DV.out _ ?_).mono ?_); (exact HRD.out); rintro e9 w9 ⟨rfl, hb⟩))
            all_goals
              have HG2 := Lib.hid (‹_ ∧ _ ∧ _ ∧ _ ∧ Kept w w9 _›.2.2.2.2)
              clear HKB
              have HB9 := Lib.hid HG2
              clear hz hbx b0 b1 c0 c1 hw9
              go_wp2_with fail
              go_loopw [5] (fun jv wr => ∃ j : Nat, j ≤ m ∧ jv = .int .i64 j ∧ Hid (∀ i, i < j → ∀ i', i' < k → ¬ HasRow (Bn l i').rows (Rn bk.rows i).i) ∧ Hid (Kept w wr [(⟨bx, 0, none⟩, .int .i64 bk.id), (⟨bx, 1, none⟩, .slice rao m rcap), (⟨w.heap.size, 0, none⟩, .int .i64 ver), (⟨w.heap.size, 1, none⟩, .slice (some ⟨g, 0, none⟩) n cap)])) (fun jv _ => m - (intOf jv).toNat)
              case atStart => exact ⟨0, Nat.zero_le _, rfl, Lib.hid (fun i hi => by omega), HG2⟩
              case round =>
                clear HG2 HB9
                obtain ⟨j, hj, rfl, HJ, HK2⟩ := hrel
                have d0 := HK2.out.get 0 rfl
                have d1 := HK2.out.get 1 rfl
                have d2 := HK2.out.get 2 rfl
                have d3 := HK2.out.get 3 rfl
                by_cases hjt : j < m
                · have hjI : (j : Int) < (m : Int) := by omega
                  obtain ⟨h, rfl, hh, hRows⟩ : ∃ h, rao = some ⟨h, 0, none⟩ ∧ h < w.heap.size ∧ ∀ k, k < m → RowIn w h k (Rn bk.rows k) := HRW.out.resolve_left (by omega)
                  have e0 := (HK2.out.1.cell (p := ⟨h, j * 5, none⟩) hh).trans (hRows j hjt).1
                  have HAS := Lib.hid (show HasRow bk.rows (Rn bk.rows j).i from ⟨j, by rw [← HM.out]; exact hjt, rfl⟩)
                  have HJS := Lib.hid (show (∀ i', i' < k → ¬ HasRow (Bn l i').rows (Rn bk.rows j).i) → ∀ i, i < j + 1 → ∀ i', i' < k → ¬ HasRow (Bn l i').rows (Rn bk.rows i).i from fun h1 i hi => by
                    by_cases e : i < j
                    · exact HJ.out i e
                    · obtain rfl : i = j := by omega
                      exact h1)
                  obtain ⟨rid, hrid⟩ : ∃ r, r = (Rn bk.rows j).i := ⟨_, rfl⟩
                  rw [← hrid] at e0 HAS HJS
                  have HE0 := Lib.hid e0
                  have HHH := Lib.hid hh
                  have SB := Lib.hid (fun w' (hb : Below w.heap.size w w') => spec_bor ver rid (some ⟨g, 0, none⟩) n cap l w' HL.out hn HR.out (HV.out.below hb))
                  clear hRows hrid e0 hh d0 d1 d2 d3
                  by_cases hex : ∃ i, i < k ∧ HasRow (Bn l i).rows rid
                  · obtain ⟨v0, hF, hne⟩ := firstAns_less (p := fun k => HasRow (Bn l k).rows rid) hlt hex
                    have q : (v0 != (k : Int)) = true := bne_iff_ne.2 hne
                    have NO := Lib.hid (HUN.out rid HAS.out hex)
                    have AN := Lib.hid hF
                    clear hF hex hne
                    have d0 := HK2.out.get 0 rfl
                    have d1 := HK2.out.get 1 rfl
                    have d2 := HK2.out.get 2 rfl
                    have d3 := HK2.out.get 3 rfl
                    go_wp2_with fail
                    go_region_held3 (fun w' => w'.cell? ⟨w.heap.size, 0, none⟩ = some (.int .i64 ver) ∧ w'.cell? ⟨w.heap.size, 1, none⟩ = some (.slice (some ⟨g, 0, none⟩) n cap) ∧ w'.cell? ⟨bx, 1, none⟩ = some (.slice (some ⟨h, 0, none⟩) m rcap) ∧ w'.cell? ⟨h, j * 5, none⟩ = some (.int .i64 rid) ∧ Kept w w' [(⟨bx, 0, none⟩, .int .i64 bk.id), (⟨bx, 1, none⟩, .slice (some ⟨h, 0, none⟩) m rcap), (⟨w.heap.size, 0, none⟩, .int .i64 ver), (⟨w.heap.size, 1, none⟩, .slice (some ⟨g, 0, none⟩) n cap)]) (first | assumption | exact tq4_start HK2.out HE0.out | exact tq4_keep (by assumption) (by assumption)) (first | (go_simp; go_at_call 78; (with_reducible refine (SB.out _ ?_).mono ?_); (exact (‹_ ∧ _ ∧ _ ∧ _ ∧ Kept w _ _›).2.2.2.2.1); rintro e9 w9 ⟨⟨v, hv, rfl⟩, hb⟩; obtain rfl := FirstAns_unique hv AN.out; clear hv))
                    all_goals
                      have HG3 := Lib.hid (‹_ ∧ _ ∧ _ ∧ _ ∧ Kept w w9 _›.2.2.2.2)
                      go_wp2
                      go_ret
                      exact TvPost.no NO.out HG3.out.1
                  · have hF := HHR.out rid HAS.out (fun i hi h9 => hex ⟨i, hi, h9⟩)
                    have q : ((k : Int) != (k : Int)) = false := bne_self_eq_false _
                    have YE := Lib.hid (HJS.out (fun i hi h9 => hex ⟨i, hi, h9⟩))
                    have AN := Lib.hid hF
                    clear hF hex
                    have d0 := HK2.out.get 0 rfl
                    have d1 := HK2.out.get 1 rfl
                    have d2 := HK2.out.get 2 rfl
                    have d3 := HK2.out.get 3 rfl
                    go_wp2_with fail
                    go_region_held3 (fun w' => w'.cell? ⟨w.heap.size, 0, none⟩ = some (.int .i64 ver) ∧ w'.cell? ⟨w.heap.size, 1, none⟩ = some (.slice (some ⟨g, 0, none⟩) n cap) ∧ w'.cell? ⟨bx, 1, none⟩ = some (.slice (some ⟨h, 0, none⟩) m rcap) ∧ w'.cell? ⟨h, j * 5, none⟩ = some (.int .i64 rid) ∧ Kept w w' [(⟨bx, 0, none⟩, .int .i64 bk.id), (⟨bx, 1, none⟩, .slice (some ⟨h, 0, none⟩) m rcap), (⟨w.heap.size, 0, none⟩, .int .i64 ver), (⟨w.heap.size, 1, none⟩, .slice (some ⟨g, 0, none⟩) n cap)]) (first | assumption | exact tq4_start HK2.out HE0.out | exact tq4_keep (by assumption) (by assumption)) (first | (go_simp; go_at_call 78; (with_reducible refine (SB.out _ ?_).mono ?_); (exact (‹_ ∧ _ ∧ _ ∧ _ ∧ Kept w _ _›).2.2.2.2.1); rintro e9 w9 ⟨⟨v, hv, rfl⟩, hb⟩; obtain rfl := FirstAns_unique hv AN.out; clear hv))
                    all_goals
                      have HG3 := Lib.hid (‹_ ∧ _ ∧ _ ∧ _ ∧ Kept w w9 _›.2.2.2.2)
                      obtain ⟨w7, hw7⟩ : ∃ w7, w7 = w9 := ⟨_, rfl⟩
                      clear HK2 d0 d1 d2 d3
                      subst hw7
                      go_wp2
                      go_roundw
                      case rel => exact ⟨j + 1, by omega, by go_num, YE, HG3⟩
                      case measure => simp [intOf]; omega
                · obtain rfl : j = m := by omega
                  have hsd : decide ((j : Int) < (j : Int)) = false := decide_eq_false (by omega)
                  have US := Lib.hid (HUS.out (fun i hi x ⟨r, hr, hx⟩ h9 => HJ.out r (by rw [HM.out]; exact hr) i hi (by rw [hx]; exact h9)))
                  have KT := Lib.hid (HK2.out.sub (l' := [(⟨w.heap.size, 0, none⟩, .int .i64 ver), (⟨w.heap.size, 1, none⟩, .slice (some ⟨g, 0, none⟩) n cap)]) (by intro p9 hp9; simp only [List.mem_cons, List.not_mem_nil, or_false] at hp9; rcases hp9 with rfl | rfl <;> simp))
                  go_wp2
                  go_roundw
                  case rel => exact ⟨k + 1, by omega, by go_num, AN, US, KT⟩
                  case measure => simp [intOf]; omega
          · have hq : decide (bk.id ≤ pid) = true := decide_eq_true (by omega)
            have AN := Lib.hid (HGE.out hl)
            clear hl hp
            go_wp2_with fail
            try rw [hbx]
            go_region_held3 (fun w' => w'.cell? ⟨bx, 0, none⟩ = some (.int .i64 bk.id) ∧ w'.cell? ⟨bx, 1, none⟩ = some (.slice rao m rcap) ∧ w'.cell? ⟨w.heap.size, 1, none⟩ = some (.slice (some ⟨g, 0, none⟩) n cap) ∧ w'.cell? ⟨g, p * 2, none⟩ = some (.int .i64 pid) ∧ Kept w w' [(⟨bx, 0, none⟩, .int .i64 bk.id), (⟨bx, 1, none⟩, .slice rao m rcap), (⟨w.heap.size, 0, none⟩, .int .i64 ver), (⟨w.heap.size, 1, none⟩, .slice (some ⟨g, 0, none⟩) n cap)]) (first | assumption | exact tk4_start HKB.out HPM.out | exact tk4_keep (by assumption) (by assumption)) (first | (go_simp; go_at_call 108; (with_reducible refine (DV.out _ ?_).mono ?_); (exact HRD.out); rintro e9 w9 ⟨rfl, hb⟩))
            all_goals
              have HG2 := Lib.hid (‹_ ∧ _ ∧ _ ∧ _ ∧ Kept w w9 _›.2.2.2.2)
              clear hw9
              go_wp2
              go_ret
              exact TvPost.no AN.out HG2.out.1
    · obtain rfl : k = n := by omega
      have hsd : decide ((k : Int) < (k : Int)) = false := decide_eq_false (by omega)
      have D1 := fun w => l1In_b ver 0 99 w
      by_cases h1 : 0 ≤ ver ∧ ver ≤ 99
      · rw [decide_eq_true h1] at D1
        have DD := Lib.hid D1
        clear D1
        by_cases h6 : k ≤ 6
        · have h6d : decide ((k : Int) ≤ 6) = true := decide_eq_true (by omega)
          have YE := Lib.hid (show TblOk ver l k from ⟨h1, h6, HA.out, HU.out⟩)
          clear h1
          go_wp2_with fail
          refine (DD.out _).mono ?_
          rintro e w1 ⟨rfl, rfl⟩
          go_wp2
          go_ret
          exact TvPost.yes YE.out HK.out.1
        · have h6d : decide ((k : Int) ≤ 6) = false := decide_eq_false (by omega)
          have NO := Lib.hid (show ¬ TblOk ver l k from fun h => h6 h.2.1)
          clear h1
          go_wp2_with fail
          refine (DD.out _).mono ?_
          rintro e w1 ⟨rfl, rfl⟩
          go_wp2
          go_ret
          exact TvPost.no NO.out HK.out.1
      · rw [decide_eq_false h1] at D1
        have DD := Lib.hid D1
        have NO := Lib.hid (show ¬ TblOk ver l k from fun h => h1 h.1)
        clear D1 h1
        go_wp2_with fail
        refine (DD.out _).mono ?_
        rintro e w1 ⟨rfl, rfl⟩
        go_wp2
        go_ret
        exact TvPost.no NO.out HK.out.1
end Go.Proofs.Ytcfcohnkkgickaa

namespace Go.Proofs.Ytcfcohnkkgickaa
open Go.RowKit Num Go.Maps

set_option maxRecDepth 8000 in
set_option maxHeartbeats 6400000 in
theorem impl_tv (ver : Int) (ao : Option Addr) (n cap : Nat) (l : List Blk) (w : World) (hl : l.length = n) (hn : n ≤ 1048576) (hr : ∀ k, k < n → (Bn l k).rows.length ≤ 1048576) (hw : WfB n (Bn l)) (hV : BlksVal w ao l) :
    Calls Try.prog 85 #[.agg #[.int .i64 ver, .slice ao n cap]] w (TvPost ver l n w) := by
  have HV := Lib.hid hV
  have HL := Lib.hid hl
  have HR := Lib.hid hr
  have HW := Lib.hid hw
  clear hV hl hr hw
  by_cases h1 : 0 ≤ ver
  · have h1d : decide (0 ≤ ver) = true := decide_eq_true h1
    by_cases h2 : ver ≤ 99
    · have h2d : decide (ver ≤ 99) = true := decide_eq_true h2
      by_cases h6 : n ≤ 6
      · have h6d : decide ((n : Int) ≤ 6) = true := decide_eq_true (by omega)
        go_enter Try.func85, Try.ntmps85
        go_wp2_with fail
        have K0 := (Kept.start w).alloc2 (.int .i64 ver) (.slice ao n cap) 32 _ rfl
        refine (impl_ab ao n cap l _ HL.out hn HR.out (HV.out.below K0.1)).mono ?_
        rintro e w1 ⟨v, hv, rfl, hb⟩
        have K1 := K0.step hb
        have HAB := Lib.hid hv
        clear hv hb K0
        cases v
        · have NO := Lib.hid (show ¬ TblOk ver l n from fun h => absurd (HAB.out.2 h.2.2.1) (by simp))
          clear HAB
          go_wp2
          go_ret
          exact TvPost.no NO.out K1.1
        · have BO := Lib.hid (HAB.out.1 rfl)
          have k0 := K1.get 0 rfl
          have k1 := K1.get 1 rfl
          clear HAB
          go_wp2_with fail
          refine (impl_rp ver ao n cap l _ HL.out hn HR.out HW.out (HV.out.below K1.1)).mono ?_
          rintro e w2 ⟨b, m, D, rfl, hm, hown, hD, _, hb⟩
          have K2 := K1.step hb
          have HM := Lib.hid hm
          have HO := Lib.hid hown
          have HD := Lib.hid hD
          clear hm hown hD hb K1 k0 k1
          go_wp2_with fail
          refine (impl_au b m D (blkPairs l n) _ HM.out HO.out HD.out).mono ?_
          rintro e w3 ⟨v, hv, rfl, hb⟩
          have K3 := K2.step hb
          have HU := Lib.hid (show v = true ↔ UniqR l n from hv.trans (uniq_iff l n BO.out))
          clear hv hb K2
          cases v
          · have NO := Lib.hid (show ¬ TblOk ver l n from fun h => absurd (HU.out.2 h.2.2.2) (by simp))
            clear HU
            go_wp2
            go_ret
            exact TvPost.no NO.out K3.1
          · have YE := Lib.hid (show TblOk ver l n from ⟨⟨h1, h2⟩, h6, BO.out, HU.out.1 rfl⟩)
            clear HU
            go_wp2
            go_ret
            exact TvPost.yes YE.out K3.1
      · have h6d : decide ((n : Int) ≤ 6) = false := decide_eq_false (by omega)
        have NO := Lib.hid (show ¬ TblOk ver l n from fun h => h6 h.2.1)
        go_enter Try.func85, Try.ntmps85
        go_wp2_with fail
        have K0 := (Kept.start w).alloc2 (.int .i64 ver) (.slice ao n cap) 32 _ rfl
        go_wp2
        go_ret
        exact TvPost.no NO.out K0.1
    · have h2d : decide (ver ≤ 99) = false := decide_eq_false h2
      have NO := Lib.hid (show ¬ TblOk ver l n from fun h => h2 h.1.2)
      go_enter Try.func85, Try.ntmps85
      go_wp2_with fail
      have K0 := (Kept.start w).alloc2 (.int .i64 ver) (.slice ao n cap) 32 _ rfl
      go_wp2
      go_ret
      exact TvPost.no NO.out K0.1
  · have h1d : decide (0 ≤ ver) = false := decide_eq_false h1
    have NO := Lib.hid (show ¬ TblOk ver l n from fun h => h1 h.1.1)
    go_enter Try.func85, Try.ntmps85
    go_wp2_with fail
    have K0 := (Kept.start w).alloc2 (.int .i64 ver) (.slice ao n cap) 32 _ rfl
    go_wp2
    go_ret
    exact TvPost.no NO.out K0.1
end Go.Proofs.Ytcfcohnkkgickaa

namespace Go.Proofs.Ytcfcohnkkgickaa
open Go.RowKit Num

set_option maxRecDepth 8000 in
set_option maxHeartbeats 6400000 in
theorem impl_maS (ao : Option Addr) (n cap : Nat) (l : List Blk) (w : World) (hl : l.length = n) (hn : n ≤ 1048576) (hr : ∀ k, k < n → (Bn l k).rows.length ≤ 1048576) (hV : BlksVal w ao l) :
    Calls Try.prog 122 #[.slice ao n cap, .func (.func 51) #[] #[]] w (SofOut (sofN l n) w) := by
  have HV := Lib.hid hV
  have HL := Lib.hid hl
  have HR := Lib.hid hr
  clear hV hl hr
  have hnI : (n : Int) ≤ 1048576 := by omega
  obtain ⟨i0, hi, hx⟩ := Option.map_eq_some_iff.1 Try.infoSum
  simp only [Prod.mk.injEq] at hx
  obtain ⟨hz0, hz1, hz2⟩ := hx
  go_enter Try.func122, Try.ntmps122
  go_wp2_with (first | (at_make; refine wpList_make_own _ rfl _ _ _ rfl w.heap.size 77 i0 _ 7 (by kernel_rfl) hi hz0 hz1 .i64 .i64 _ n rfl rfl rfl (by rw [hz2]; omega) (by unfold maxLen; omega) (Nat.le_refl _) ?_; intro w1 hown hgr))
  have HB1 := Lib.hid ((Below.refl w.heap.size w).grown hgr (Nat.le_refl _) (by intro k hk; cases hk))
  have HO1 := Lib.hid (ownM_made (n := n) hown)
  clear hown hgr hi hz0 hz1 hz2
  go_loopw [5, 13] (fun vv iv wr => ∃ (k : Nat) (a4 : Option Addr) (c4 : Nat) (f : List Nat), k ≤ n ∧ iv = .int .i64 k ∧ vv = .slice a4 k c4 ∧ Hid (OwnM wr w.heap.size (.slice a4 k c4) (sofN l k) f) ∧ Hid (Below w.heap.size w wr)) (fun _ iv _ => n - (intOf iv).toNat)
  case atStart => exact ⟨0, _, _, [], Nat.zero_le _, rfl, rfl, HO1, HB1⟩
  case round =>
    obtain ⟨k, a4, c4, f, hk, rfl, rfl, HO, HB⟩ := hrel
    by_cases hlt : k < n
    · have hkI : (k : Int) < (n : Int) := by omega
      obtain ⟨g, rfl, hg, hBk⟩ := HV.out.head HL.out (by omega)
      obtain ⟨rao, rcap, c0, c1, hRV⟩ := (hBk k hlt).below HB.out hg (Nat.le_refl _)
      have hrl := HR.out k hlt
      have HSU := Lib.hid (sofN_succ l k)
      obtain ⟨⟨sb, sn, su, mn, mx, sm, sh⟩, hsm⟩ : ∃ z : Sm, z = sumB (Bn l k).id (Bn l k).rows := ⟨_, rfl⟩
      rw [← hsm] at HSU
      have D2 : Hid (∀ w, RowsVal w rao (Bn l k).rows.length (Rn (Bn l k).rows) → Calls Try.prog 51 #[.agg #[.int .i64 (Bn l k).id, .slice rao (Bn l k).rows.length rcap]] w (SmOut sb sn su mn mx sm sh w)) := fun w hV => by
        have h := impl_sumV (Bn l k).id rao (Bn l k).rows.length rcap (Bn l k).rows w rfl hrl hV
        rw [← hsm] at h
        exact h
      obtain ⟨bk, hbk⟩ : ∃ bk, bk = Bn l k := ⟨_, rfl⟩
      rw [← hbk] at c0 c1 hRV D2
      obtain ⟨m, hm⟩ : ∃ m, m = bk.rows.length := ⟨_, rfl⟩
      rw [← hm] at c1 hRV D2
      clear hBk hsm hbk hm
      have hB1 := (Below.refl wr.heap.size wr).alloc (Nat.le_refl _) (.cells #[.int .i64 bk.id, .slice rao m rcap] 80)
      have HB2 := Lib.hid (HB.out.trans (hB1.mono HB.out.size))
      have HO2 := Lib.hid (HO.out.step hB1)
      have HRV := Lib.hid (hRV.below hB1)
      clear hRV hB1
      go_wp2_with fail
      refine (D2.out _ HRV.out).mono ?_
      rintro e w2 ⟨v9, fb, rfl, hs, hnd, hf, hb⟩
      obtain ⟨ro, rc, rfl, _, _⟩ := ints_open hs
      have HB3 := Lib.hid (HB2.out.trans (hb.mono HB2.out.size))
      have HO3 := Lib.hid (HO2.out.step hb)
      have hOl := HO2.out.lt
      have HD1 := Lib.hid (show ∀ j ∈ fb, j ∉ f from fun j hj e => by have h1 := hf j hj; have h2 := hOl.2 j e; omega)
      have HD2 := Lib.hid (show ∀ j ∈ fb, (Value.slice a4 k c4).ownBlock ≠ some j from fun j hj e => by have h1 := hf j hj; have h2 := (hOl.1 j e).2; omega)
      have HD3 := Lib.hid (show ∀ j ∈ fb, w.heap.size ≤ j from fun j hj => Nat.le_trans HB2.out.size (hf j hj))
      have HS := Lib.hid hs
      have HND := Lib.hid hnd
      clear hb c0 c1 hg hOl hs hf hnd
      have KK := (Kept.start w2).alloc7 (.int .i64 sb) (.int .i64 sn) (.int .i64 su) (.int .i64 mn) (.int .i64 mx) (.int .i64 sm) (.slice ro sh.length rc) 77 _ rfl
      have SC := Lib.hid (sc_cells (b := ⟨sb, sn, su, mn, mx, sm, sh⟩) KK)
      have HS2 := Lib.hid (HS.out.step KK.1)
      have KBB := Lib.hid (show KM w _ w.heap.size [] (.slice a4 k c4) (sofN l k) f from ⟨⟨HB3.out.trans (KK.1.mono HB3.out.size), fun p hp => by cases hp⟩, HO3.out.step KK.1, fun p hp => by cases hp⟩)
      have HWS := Lib.hid (show w.heap.size ≤ w2.heap.size from HB3.out.size)
      have HLN := Lib.hid (show ((sofN l k).length + 1) * 72 ≤ 140737488355328 from by rw [sofN_len]; omega)
      clear KK
      go_wp2_with (first | (at_builtin; refine wpList_append_km (W := w) rfl _ _ rfl w.heap.size (.slice a4 k c4) [] (sofN l k) f ⟨sb, sn, su, mn, mx, sm, sh⟩ ro sh.length rc fb w2.heap.size 1 rfl rfl KBB.out SC.out HS2.out HD3.out HND.out HD1.out HD2.out (fun p hp => by cases hp) HLN.out (Nat.le_refl _) (by simp only [World.size_alloc]; have := HWS.out; omega) ?_; intro v' w6 KB6; obtain ⟨ao', c', hv'⟩ := KB6.2.1.shape; rw [show sofN l k ++ [⟨sb, sn, su, mn, mx, sm, sh⟩] = sofN l (k + 1) from HSU.out] at KB6 hv'; rw [sofN_len] at hv'; subst hv'))
      have HK6 := Lib.hid KB6
      clear KB6
      go_wp2
      go_roundw
      case rel => exact ⟨k + 1, ao', c', f ++ fb, by omega, by go_num, rfl, HK6.out.2.1, HK6.out.1.1⟩
      case measure => simp [intOf]; omega
    · obtain rfl : k = n := by omega
      have hsd : decide ((k : Int) < (k : Int)) = false := decide_eq_false (by omega)
      go_wp2
      go_ret
      exact ⟨_, f, rfl, HO.out, HB.out⟩

set_option maxRecDepth 8000 in
set_option maxHeartbeats 6400000 in
theorem impl_sof (ver : Int) (ao : Option Addr) (n cap : Nat) (l : List Blk) (w : World) (hl : l.length = n) (hn : n ≤ 1048576) (hr : ∀ k, k < n → (Bn l k).rows.length ≤ 1048576) (hw : WfB n (Bn l)) (hV : BlksVal w ao l) :
    Calls Try.prog 66 #[.agg #[.int .i64 ver, .slice ao n cap]] w (SofOut (sofT ver l) w) := by
  have HV := Lib.hid hV
  have HL := Lib.hid hl
  have HR := Lib.hid hr
  have HW := Lib.hid hw
  have hln := hl
  clear hV hl hr hw
  go_enter Try.func66, Try.ntmps66
  go_wp2_with fail
  have K0 := (Kept.start w).alloc2 (.int .i64 ver) (.slice ao n cap) 32 _ rfl
  refine (impl_tv ver ao n cap l _ HL.out hn HR.out HW.out (HV.out.below K0.1)).mono ?_
  rintro e w1 ⟨v, hv, rfl, hb⟩
  have K1 := K0.step hb
  have HTV := Lib.hid hv
  clear hv hb K0
  cases v
  · have NO := Lib.hid (sofT_no (ver := ver) (l := l) (fun h => absurd (HTV.out.2 (by rw [← hln]; exact h)) (by simp)))
    clear HTV
    go_wp2
    go_ret
    exact ⟨_, [], rfl, by rw [NO.out]; exact OwnM.nil _ _, K1.1⟩
  · have YE := Lib.hid (sofT_yes (ver := ver) (l := l) (by rw [hln]; exact HTV.out.1 rfl))
    have k1 := K1.get 1 rfl
    clear HTV
    go_wp2_with fail
    refine (impl_maS ao n cap l _ HL.out hn HR.out (HV.out.below K1.1)).mono ?_
    rintro e w2 ⟨v9, f, rfl, ho, hb⟩
    have K2 := K1.step hb
    have HO := Lib.hid (show OwnM w2 w.heap.size v9 (sofT ver l) f from by
      rw [YE.out, HL.out]
      exact ho.base K1.1.size)
    clear hb K1 k1 ho
    go_wp2
    go_ret
    exact ⟨_, f, rfl, HO.out, K2.1⟩
end Go.Proofs.Ytcfcohnkkgickaa

namespace Go.Proofs.Ytcfcohnkkgickaa
open Go.RowKit Num

theorem sp_null {x : Sp} {r : Rw} (h : r.nl = true) : x.row r = x := if_pos h
theorem sp_first {x : Sp} {r : Rw} (h : r.nl = false) (hc : x.c = 0) : x.row r = ⟨1, r.x, r.x, r.x⟩ := by
  unfold Sp.row; rw [if_neg (by rw [h]; decide), Sp.plus_l hc]
theorem sp_more {x : Sp} {r : Rw} (h : r.nl = false) (hc : ¬ x.c = 0) : x.row r = ⟨x.c + 1, min x.mn r.x, max x.mx r.x, x.s + r.x⟩ := by
  unfold Sp.row; rw [if_neg (by rw [h]; decide), Sp.plus_b hc (by simp)]
theorem ret_b {p : Prop} [Decidable p] {b : Bool} (h : decide p = b) : Value.bool b = Value.bool (decide p) := by rw [h]

def suS0 : Oper := { dst := some 13, op := Go.Op.fieldAddr 80 (Go.Operand.tmp 1) 0, type := 0, pos := "l09_summary.go:27", after := #[], guard := none }
def suS1 : Oper := { dst := some 14, op := Go.Op.load 3 (Go.Operand.tmp 13), type := 3, pos := "l09_summary.go:27", after := #[{ on := 0, ground := Go.Ground.data }], guard := none }
def suS2 : Oper := { dst := some 15, op := Go.Op.fieldAddr 80 (Go.Operand.tmp 1) 1, type := 0, pos := "l09_summary.go:27", after := #[], guard := none }
def suS3 : Oper := { dst := some 16, op := Go.Op.load 57 (Go.Operand.tmp 15), type := 57, pos := "l09_summary.go:27", after := #[{ on := 2, ground := Go.Ground.data }], guard := none }
def suS4 : Oper := { dst := some 17, op := Go.Op.call { callee := Go.Callee.builtin Go.Builtin.len, args := #[Go.Operand.tmp 16], argTypes := #[57] }, type := 3, pos := "l09_summary.go:27", after := #[{ on := 3, ground := Go.Ground.data }], guard := none }
def suS5 : Oper := { dst := some 18, op := Go.Op.fieldAddr 80 (Go.Operand.tmp 1) 1, type := 0, pos := "l09_summary.go:27", after := #[], guard := none }
def suS6 : Oper := { dst := some 19, op := Go.Op.load 57 (Go.Operand.tmp 18), type := 57, pos := "l09_summary.go:27", after := #[{ on := 5, ground := Go.Ground.data }], guard := none }
def suS7 : Oper := { dst := some 20, op := Go.Op.call { callee := Go.Callee.value (Go.Operand.func 35), args := #[Go.Operand.tmp 19], argTypes := #[57] }, type := 45, pos := "l09_summary.go:27", after := #[{ on := 6, ground := Go.Ground.data }], guard := none }
def suS8 : Oper := { dst := some 21, op := Go.Op.build 77 #[(0, Go.Operand.tmp 14), (1, Go.Operand.tmp 17), (6, Go.Operand.tmp 20)], type := 77, pos := "l09_summary.go:27", after := #[{ on := 1, ground := Go.Ground.data }, { on := 4, ground := Go.Ground.data }, { on := 7, ground := Go.Ground.data }], guard := none }
def suS9 : Oper := { dst := some 3, op := Go.Op.alloc 77, type := 0, pos := "l09_summary.go:27", after := #[], guard := none }
def suS10 : Oper := { dst := none, op := Go.Op.store 77 (Go.Operand.tmp 3) (Go.Operand.tmp 21), type := 0, pos := "l09_summary.go:27", after := #[{ on := 9, ground := Go.Ground.data }, { on := 8, ground := Go.Ground.data }, { on := 7, ground := Go.Ground.chain }, { on := 0, ground := Go.Ground.phase }, { on := 1, ground := Go.Ground.phase }, { on := 2, ground := Go.Ground.phase }, { on := 3, ground := Go.Ground.phase }, { on := 4, ground := Go.Ground.phase }, { on := 5, ground := Go.Ground.phase }, { on := 6, ground := Go.Ground.phase }, { on := 7, ground := Go.Ground.phase }, { on := 8, ground := Go.Ground.phase }, { on := 9, ground := Go.Ground.phase }], guard := none }
set_option maxRecDepth 8000 in
set_option maxHeartbeats 6400000 in
theorem spec_sumV (id : Int) (ao : Option Addr) (n cap : Nat) (l : List Rw) (w : World) (hl : l.length = n) (hn : n ≤ 1048576) (hV : RowsVal w ao n (Rn l)) :
    Calls Try.prog 49 #[.agg #[.int .i64 id, .slice ao n cap]] w (SmOut (sumB id l).b (sumB id l).c (sumB id l).u (sumB id l).mn (sumB id l).mx (sumB id l).sm (sumB id l).h w) := by
  have BV := fun w hV => spec_bvV id ao n cap (Rn l) w (by omega) hV
  obtain ⟨v, hv⟩ : ∃ v, v = blkB id n (Rn l) := ⟨_, rfl⟩
  simp only [← hv] at BV
  have HBV := Lib.hid BV
  have HV := Lib.hid hV
  have HVV := Lib.hid hv
  clear BV hV hv
  cases v
  · skip
    have hAN := sumB_f (id := id) (l := l) (by rw [hl]; exact HVV.out.symm)
    have AN := Lib.hid hAN
    have HI := Lib.hid (fun (ao : Option Addr) (w : World) => spec_histV ao 0 0 [] w rfl (by decide) (rowsVal_nil _ _ _))
    clear hAN hl
    go_enter Try.func49, Try.ntmps49
    have K0 := ((Kept.start w).alloc2 (.int .i64 id) (.slice ao n cap) 80 _ rfl).alloc7 (.int .i64 0) (.int .i64 0) (.int .i64 0) (.int .i64 0) (.int .i64 0) (.int .i64 0) (.slice none 0 0) 77 (w.heap.size + 1) (by simp)
    go_wp2_with fail
    refine (HBV.out _ (HV.out.below K0.1)).mono ?_
    rintro e w1 ⟨rfl, hb⟩
    have K1 := K0.step hb
    clear hb K0
    go_wp2_with fail
    refine (HI.out _ _).mono ?_
    rintro e w2 ⟨v, fp, rfl, hs, hnd, hf, hb⟩
    obtain ⟨aoh, ch, rfl, _, _⟩ := ints_open hs
    have K2 := (K1.step ((Below.refl _ _).alloc (Nat.le_refl _) _)).step hb
    have h2 := K1.lt 0 rfl
    simp only at h2
    have hfw : ∀ k ∈ fp, w.heap.size + 1 < k := fun k hk => by have h1 := hf k hk; simp only [World.size_alloc] at h1; omega
    obtain ⟨m9, hm9⟩ : ∃ x, x = (histL []).length := ⟨_, rfl⟩
    rw [← hm9] at hs ⊢
    clear hm9
    have K3 := K2.setB7 (.int .i64 0) (.int .i64 0) (.int .i64 0) (.int .i64 0) (.int .i64 0) (.int .i64 0) (.slice aoh m9 ch) (by omega) (by simp only [List.mem_cons, List.not_mem_nil, or_false]; rintro c9 (rfl | rfl) <;> (dsimp only; omega))
    have HS9 := Lib.hid (hs.setB7 (w.heap.size + 1) (.int .i64 0) (.int .i64 0) (.int .i64 0) (.int .i64 0) (.int .i64 0) (.int .i64 0) (.slice aoh m9 ch) (fun k hk => by have := hfw k hk; omega))
    have HF9 := Lib.hid (show ∀ k ∈ fp, w.heap.size ≤ k from fun k hk => by have := hfw k hk; omega)
    have HK9 := Lib.hid K3.1
    have k0 := K2.get 0 rfl
    have f0 := K2.fz 0 rfl
    have k1 := K2.get 1 rfl
    have f1 := K2.fz 1 rfl
    have k2 := K2.get 2 rfl
    have f2 := K2.fz 2 rfl
    have k3 := K2.get 3 rfl
    have f3 := K2.fz 3 rfl
    have k4 := K2.get 4 rfl
    have f4 := K2.fz 4 rfl
    have k5 := K2.get 5 rfl
    have f5 := K2.fz 5 rfl
    have k6 := K2.get 6 rfl
    have f6 := K2.fz 6 rfl
    have z := K2.lt 0 rfl
    clear K1 K2 K3 hs hf hb hfw h2
    go_wp2
    exact bodyPost_ret (v := .agg #[.int .i64 0, .int .i64 0, .int .i64 0, .int .i64 0, .int .i64 0, .int .i64 0, .slice aoh m9 ch]) (by simp [results, Try.results49, go_sem, k0, k1, k2, k3, k4, k5, k6, z]) rfl ⟨_, fp, by rw [AN.out], by rw [AN.out]; exact HS9.out, hnd, HF9.out, HK9.out⟩
  · skip
    have hb9 : blkB id l.length (Rn l) = true := by rw [hl]; exact HVV.out.symm
    have hAN := sumB_t hb9
    obtain ⟨_, hb2, hb3⟩ := blkB_of hb9
    have HOK := Lib.hid (rows_ok hb2)
    have hn6 : n ≤ 6 := by omega
    have hnI : (n : Int) ≤ 6 := by omega
    have HL := Lib.hid hl
    obtain ⟨HH, hHH⟩ : ∃ H, H = histL l := ⟨_, rfl⟩
    have AN := Lib.hid (show sumB id l = ⟨id, n, (n : Int) - (spL l).c, (spL l).mn, (spL l).mx, (spL l).s, HH⟩ by rw [hAN, hHH, hl])
    have HI := Lib.hid (fun w hV => spec_histV ao n cap l w hl (by omega) hV)
    rw [← hHH] at HI
    clear hl hb9 hb2 hb3 hAN hHH
    go_enter Try.func49, Try.ntmps49
    have K0 := ((Kept.start w).alloc2 (.int .i64 id) (.slice ao n cap) 80 _ rfl).alloc7 (.int .i64 0) (.int .i64 0) (.int .i64 0) (.int .i64 0) (.int .i64 0) (.int .i64 0) (.slice none 0 0) 77 (w.heap.size + 1) (by simp)
    go_wp2_with fail
    refine (HBV.out _ (HV.out.below K0.1)).mono ?_
    rintro e w1 ⟨rfl, hb⟩
    have K1 := K0.step hb
    clear hb K0
    go_upto_region 3 with fail
    have KDs := K1.drew
    refine wp_region_held_drew (S := fun w' => w'.cell? ⟨w.heap.size, 0, none⟩ = some (.int .i64 id) ∧ w'.cell? ⟨w.heap.size, 1, none⟩ = some (.slice ao n cap)) (by kernel_rfl) (⟨KDs.get 7 rfl, KDs.get 8 rfl⟩) (fun hHeld => ?_)
    obtain ⟨wDs, hx9⟩ : ∃ x, x = w1.drew := ⟨_, rfl⟩
    have BDs := Lib.hid (show Below w1.heap.size w1 w1.drew from (Below.refl _ _).drew)
    rw [← hx9] at KDs hHeld BDs ⊢
    clear hx9
    refine wpAnyH_take (i := 0) (oi := suS0) (v := .pointer (some ⟨w.heap.size, 0, none⟩)) rfl (by kernel_rfl) (by kernel_rfl) (by kernel_rfl) (fun _ _ _ h => h) (Or.inl ⟨by rfl, ?_⟩) (by assumption) ?_
    · intro w8 hS8
      (try dsimp only at hS8)
      dsimp only [suS0]
      (first | (go_simp; done) | (go_simp; simp_all; done) | (simp_all [go_sem]; done))
    try simp only [Act.put, suS0, List.setIfInBounds_toArray, List.set_cons_zero, List.set_cons_succ]
    refine wpAnyH_take (i := 1) (oi := suS1) (v := .int .i64 id) rfl (by kernel_rfl) (by kernel_rfl) (by kernel_rfl) (fun _ _ _ h => h) (Or.inl ⟨by rfl, ?_⟩) (by assumption) ?_
    · intro w8 hS8
      (try dsimp only at hS8)
      dsimp only [suS1]
      (first | (go_simp; done) | (go_simp; simp_all; done) | (simp_all [go_sem]; done))
    try simp only [Act.put, suS1, List.setIfInBounds_toArray, List.set_cons_zero, List.set_cons_succ]
    refine wpAnyH_take (i := 2) (oi := suS2) (v := .pointer (some ⟨w.heap.size, 1, none⟩)) rfl (by kernel_rfl) (by kernel_rfl) (by kernel_rfl) (fun _ _ _ h => h) (Or.inl ⟨by rfl, ?_⟩) (by assumption) ?_
    · intro w8 hS8
      (try dsimp only at hS8)
      dsimp only [suS2]
      (first | (go_simp; done) | (go_simp; simp_all; done) | (simp_all [go_sem]; done))
    try simp only [Act.put, suS2, List.setIfInBounds_toArray, List.set_cons_zero, List.set_cons_succ]
    refine wpAnyH_take (i := 3) (oi := suS3) (v := .slice ao n cap) rfl (by kernel_rfl) (by kernel_rfl) (by kernel_rfl) (fun _ _ _ h => h) (Or.inl ⟨by rfl, ?_⟩) (by assumption) ?_
    · intro w8 hS8
      (try dsimp only at hS8)
      dsimp only [suS3]
      (first | (go_simp; done) | (go_simp; simp_all; done) | (simp_all [go_sem]; done))
    try simp only [Act.put, suS3, List.setIfInBounds_toArray, List.set_cons_zero, List.set_cons_succ]
    refine wpAnyH_take (i := 4) (oi := suS4) (v := .int .i64 ((n : Int))) rfl (by kernel_rfl) (by kernel_rfl) (by kernel_rfl) (fun _ _ _ h => h) (Or.inl ⟨by rfl, ?_⟩) (by assumption) ?_
    · intro w8 hS8
      (try dsimp only at hS8)
      dsimp only [suS4]
      (first | (go_simp; done) | (go_simp; simp_all; done) | (simp_all [go_sem]; done))
    try simp only [Act.put, suS4, List.setIfInBounds_toArray, List.set_cons_zero, List.set_cons_succ]
    refine wpAnyH_take (i := 5) (oi := suS5) (v := .pointer (some ⟨w.heap.size, 1, none⟩)) rfl (by kernel_rfl) (by kernel_rfl) (by kernel_rfl) (fun _ _ _ h => h) (Or.inl ⟨by rfl, ?_⟩) (by assumption) ?_
    · intro w8 hS8
      (try dsimp only at hS8)
      dsimp only [suS5]
      (first | (go_simp; done) | (go_simp; simp_all; done) | (simp_all [go_sem]; done))
    try simp only [Act.put, suS5, List.setIfInBounds_toArray, List.set_cons_zero, List.set_cons_succ]
    refine wpAnyH_take (i := 6) (oi := suS6) (v := .slice ao n cap) rfl (by kernel_rfl) (by kernel_rfl) (by kernel_rfl) (fun _ _ _ h => h) (Or.inl ⟨by rfl, ?_⟩) (by assumption) ?_
    · intro w8 hS8
      (try dsimp only at hS8)
      dsimp only [suS6]
      (first | (go_simp; done) | (go_simp; simp_all; done) | (simp_all [go_sem]; done))
    try simp only [Act.put, suS6, List.setIfInBounds_toArray, List.set_cons_zero, List.set_cons_succ]
    refine wpAnyH_ready (rs := [7, 9]) (by kernel_rfl) (by simp) ?_
    refine AllReadyH.cons (o := suS7) rfl (fun K hK => ?_) (AllReadyH.cons (o := suS9) rfl (fun K hK => ?_) (AllReadyH.nil))
    · skip
      dsimp only [suS7]
      go_simp
      go_at_call 35
      (with_reducible refine (HI.out _ (HV.out.below (Kept.below KDs))).mono ?_)
      rintro e9 wcs1 ⟨vh, fph, rfl, hsh, hndh, hfh, hbs1⟩
      obtain ⟨aoh, ch, rfl, _, hVh⟩ := ints_open hsh
      have KCs1 := KDs.step hbs1
      refine hK.out _ _ ?_ (fun hHs1 => ?_)
      · exact ⟨KCs1.get 7 rfl, KCs1.get 8 rfl⟩
      clear hK K
      try simp only [Act.put, suS7, List.setIfInBounds_toArray, List.set_cons_zero, List.set_cons_succ]
      refine wpAnyH_take (i := 8) (oi := suS8) (v := .agg #[.int .i64 id, .int .i64 ((n : Int)), .int .i64 0, .int .i64 0, .int .i64 0, .int .i64 0, .slice aoh HH.length ch]) rfl (by kernel_rfl) (by kernel_rfl) (by kernel_rfl) (fun _ _ _ h => h) (Or.inl ⟨by rfl, ?_⟩) (by assumption) ?_
      · intro w8 hS8
        (try dsimp only at hS8)
        dsimp only [suS8]
        (first | (go_simp; done) | (go_simp; simp_all; done) | (simp_all [go_sem]; done))
      try simp only [Act.put, suS8, List.setIfInBounds_toArray, List.set_cons_zero, List.set_cons_succ]
      refine wpAnyH_ready (rs := [9]) (by kernel_rfl) (by simp) ?_
      refine AllReadyH.cons (o := suS9) rfl (fun K hK => ?_) AllReadyH.nil
      dsimp only [suS9]
      go_simp
      have KCs2 := KCs1.alloc7 (.int .i64 0) (.int .i64 0) (.int .i64 0) (.int .i64 0) (.int .i64 0) (.int .i64 0) (.slice none 0 0) 77 wcs1.heap.size rfl
      have hbs2 : Below wcs1.heap.size wcs1 (wcs1.alloc (.cells #[.int .i64 0, .int .i64 0, .int .i64 0, .int .i64 0, .int .i64 0, .int .i64 0, .slice none 0 0] 77)) := (Below.refl _ _).alloc (Nat.le_refl _) _
      obtain ⟨nbs2, hN2⟩ : ∃ x, x = wcs1.heap.size := ⟨_, rfl⟩
      refine hK.out _ _ ?_ (fun hHs2 => ?_)
      · exact ⟨KCs2.get 14 rfl, KCs2.get 15 rfl⟩
      clear hK K
      try simp only [Act.put, suS9, List.setIfInBounds_toArray, List.set_cons_zero, List.set_cons_succ]
      obtain ⟨wcs2, hx9⟩ : ∃ x, x = wcs1.alloc (.cells #[.int .i64 0, .int .i64 0, .int .i64 0, .int .i64 0, .int .i64 0, .int .i64 0, .slice none 0 0] 77) := ⟨_, rfl⟩
      rw [← hx9] at KCs2 hHs2 hbs2 ⊢
      clear hx9
      have HNs2 := Lib.hid hN2
      rw [← hN2] at KCs2 ⊢
      clear hN2
      refine wpAnyH_ready (rs := [10]) (by kernel_rfl) (by simp) ?_
      refine AllReadyH.cons (o := suS10) rfl (fun K hK => ?_) AllReadyH.nil
      have k0 := KCs2.get 0 rfl
      have f0 := KCs2.fz 0 rfl
      have k1 := KCs2.get 1 rfl
      have f1 := KCs2.fz 1 rfl
      have k2 := KCs2.get 2 rfl
      have f2 := KCs2.fz 2 rfl
      have k3 := KCs2.get 3 rfl
      have f3 := KCs2.fz 3 rfl
      have k4 := KCs2.get 4 rfl
      have f4 := KCs2.fz 4 rfl
      have k5 := KCs2.get 5 rfl
      have f5 := KCs2.fz 5 rfl
      have k6 := KCs2.get 6 rfl
      have f6 := KCs2.fz 6 rfl
      have hN9 := (show w.heap.size + 1 < nbs2 from by have h1 := HNs2.out; have h2 := KCs1.lt 0 rfl; simp only at h2; omega)
      dsimp only [suS10]
      go_simp
      have KCs3 := KCs2.setB7 (.int .i64 id) (.int .i64 ((n : Int))) (.int .i64 0) (.int .i64 0) (.int .i64 0) (.int .i64 0) (.slice aoh HH.length ch) (by omega) (by simp only [List.mem_cons, List.not_mem_nil, or_false]; rintro c9 (rfl | rfl | rfl | rfl | rfl | rfl | rfl | rfl | rfl) <;> (dsimp only; omega))
      refine hK.out _ _ ?_ (fun hHs3 => ?_)
      · exact ⟨KCs3.get 14 rfl, KCs3.get 15 rfl⟩
      clear hK K
      try simp only [Act.put, suS10, List.setIfInBounds_toArray, List.set_cons_zero, List.set_cons_succ]
      refine wpAnyH_done (by kernel_rfl) ?_ _
      have HN9 := Lib.hid hN9
      have hfw : ∀ k ∈ fph, w.heap.size + 1 < k := fun k hk => by
        have h1 := hfh k hk
        have h2 := KDs.lt 0 rfl
        simp only at h2
        omega
      have HNE := Lib.hid (show ∀ k ∈ fph, k ≠ nbs2 from (fun k hk => by have h1 := hsh.lt k hk; have h2 := HNs2.out; omega))
      have HFW := Lib.hid hfw
      have HSS := Lib.hid ((hsh.step hbs2).setB7 nbs2 (.int .i64 id) (.int .i64 ((n : Int))) (.int .i64 0) (.int .i64 0) (.int .i64 0) (.int .i64 0) (.slice aoh HH.length ch) HNE.out)
      have HKX := Lib.hid KCs3
      clear k0 k1 k2 k3 k4 k5 k6 f0 f1 f2 f3 f4 f5 f6 hfw hfh hsh
      obtain ⟨wx, hwx⟩ : ∃ x, x = (((((((wcs2.setCell ⟨nbs2, 0, none⟩ (.int .i64 id)).setCell ⟨nbs2, 1, none⟩ (.int .i64 ((n : Int)))).setCell ⟨nbs2, 2, none⟩ (.int .i64 0)).setCell ⟨nbs2, 3, none⟩ (.int .i64 0)).setCell ⟨nbs2, 4, none⟩ (.int .i64 0)).setCell ⟨nbs2, 5, none⟩ (.int .i64 0)).setCell ⟨nbs2, 6, none⟩ (.slice aoh HH.length ch)) := ⟨_, rfl⟩
      rw [← hwx] at HKX HSS ⊢
      clear hwx
      go_wp2_with fail
      go_loopw [4, 5] (fun fv iv wr => ∃ k : Nat, k ≤ n ∧ iv = .int .i64 k ∧ fv = .bool (decide ((spL (l.take k)).c = 0)) ∧ Hid (Kept w wr [(⟨nbs2, 0, none⟩, .int .i64 id), (⟨nbs2, 1, none⟩, .int .i64 ((n : Int))), (⟨nbs2, 2, none⟩, .int .i64 ((k : Int) - (spL (l.take k)).c)), (⟨nbs2, 3, none⟩, .int .i64 ((spL (l.take k)).mn)), (⟨nbs2, 4, none⟩, .int .i64 ((spL (l.take k)).mx)), (⟨nbs2, 5, none⟩, .int .i64 ((spL (l.take k)).s)), (⟨nbs2, 6, none⟩, .slice aoh HH.length ch), (⟨w.heap.size + 1, 0, none⟩, .int .i64 0), (⟨w.heap.size + 1, 1, none⟩, .int .i64 0), (⟨w.heap.size + 1, 2, none⟩, .int .i64 0), (⟨w.heap.size + 1, 3, none⟩, .int .i64 0), (⟨w.heap.size + 1, 4, none⟩, .int .i64 0), (⟨w.heap.size + 1, 5, none⟩, .int .i64 0), (⟨w.heap.size + 1, 6, none⟩, .slice none 0 0), (⟨w.heap.size, 0, none⟩, .int .i64 id), (⟨w.heap.size, 1, none⟩, .slice ao n cap)]) ∧ Hid (SliceRep intTy wr (.slice aoh HH.length ch) HH fph)) (fun _ iv _ => n - (intOf iv).toNat)
      case atStart => exact ⟨0, Nat.zero_le _, rfl, rfl, HKX.out, HSS.out⟩
      case round =>
        obtain ⟨k, hk, rfl, rfl, HK, HS0⟩ := hrel
        clear HKX HSS
        have hN9 := HN9.out
        obtain ⟨ac, hac⟩ : ∃ z, z = spL (l.take k) := ⟨_, rfl⟩
        have HKK := HK.out
        rw [← hac] at HKK
        rw [← hac]
        have BD := spL_bound HOK.out k (by rw [HL.out]; exact hk)
        rw [← hac] at BD
        obtain ⟨c, m, x, s⟩ := ac
        simp only at HKK
        have HAC := Lib.hid hac
        have BD' := Lib.hid BD
        obtain ⟨b0, b1, _, _, _, _, _, _, b8, b9⟩ := BD
        simp only at b0 b1 b8 b9
        simp only
        clear hac
        obtain ⟨u, hu⟩ : ∃ u, u = (k : Int) - c := ⟨_, rfl⟩
        rw [← hu] at HKK
        have hu0 : 0 ≤ u := by omega
        have hu1 : u ≤ 6 := by omega
        have HU := Lib.hid hu
        clear hu
        have y0 := HKK.get 14 rfl
        have y1 := HKK.get 15 rfl
        by_cases hlt : k < n
        · have hkI : (k : Int) < (n : Int) := by omega
          obtain ⟨gg, rfl, hg, hR⟩ := (HV.out.below HKK.1).resolve_left (by omega)
          have hrow := hR k hlt
          obtain ⟨r, hr⟩ : ∃ r, r = Rn l k := ⟨_, rfl⟩
          rw [← hr] at hrow
          have hrk : rowB r.i r.g r.y r.x r.nl = true := by rw [hr, Rn_at (by rw [HL.out]; exact hlt)]; exact HOK.out k (by rw [HL.out]; exact hlt)
          have NX := Lib.hid (show spL (l.take (k + 1)) = Sp.row ⟨c, m, x, s⟩ r by rw [spL_take (by rw [HL.out]; exact hlt), ← HAC.out, hr, Rn_at (by rw [HL.out]; exact hlt)])
          obtain ⟨c0, c1, c2, c3, c4⟩ := hrow
          obtain ⟨ri, rg, ry, rx, rn⟩ := r
          simp only at c0 c1 c2 c3 c4 hrk
          obtain ⟨hx0, hx1⟩ := (rowB_of hrk).2.2.2.1
          have K5 := HKK.alloc5 (.int .i64 ri) (.int .i64 rg) (.int .i64 ry) (.int .i64 rx) (.bool rn) 36 wr.heap.size rfl
          have HS5 := Lib.hid (HS0.out.step ((Below.refl wr.heap.size wr).alloc (Nat.le_refl _) (.cells #[.int .i64 ri, .int .i64 rg, .int .i64 ry, .int .i64 rx, .bool rn] 36)))
          have hrb : w.heap.size + 1 < wr.heap.size ∧ nbs2 < wr.heap.size := ⟨by have h := HKK.lt 7 rfl; exact h, by have h := HKK.lt 0 rfl; exact h⟩
          obtain ⟨hrb0, hrb1⟩ := hrb
          obtain ⟨rb, hrb⟩ : ∃ x, x = wr.heap.size := ⟨_, rfl⟩
          go_upto_region 9 with fail
          obtain ⟨ws0, hx9⟩ : ∃ x, x = wr.alloc (.cells #[.int .i64 ri, .int .i64 rg, .int .i64 ry, .int .i64 rx, .bool rn] 36) := ⟨_, rfl⟩
          rw [← hx9] at K5 HS5 ⊢
          clear hx9
          rw [← hrb] at K5 hrb0 hrb1 ⊢
          clear hrb hr hrk hR c0 c1 c2 c3 c4 y0 y1 HKK
          have z3 := K5.get 3 rfl
          have z4 := K5.get 4 rfl
          cases rn
          · by_cases hc0 : c = 0
            · skip
              have NXX := Lib.hid (show spL (l.take (k + 1)) = ⟨1, rx, rx, rx⟩ from NX.out.trans (sp_first rfl hc0))
              have hs0 : s = 0 := by have h := BD'.out.2.2.1 hc0; injection h
              have hd0 : decide (c = 0) = true := decide_eq_true hc0
              rw [hd0]
              subst hs0
              have HC0 := Lib.hid hc0
              clear hc0
              have q0 := K5.get 8 rfl
              have KS1 : Kept w (ws0.setCell ⟨nbs2, 3, none⟩ (.int .i64 rx)) [(⟨rb, 0, none⟩, .int .i64 ri), (⟨rb, 1, none⟩, .int .i64 rg), (⟨rb, 2, none⟩, .int .i64 ry), (⟨rb, 3, none⟩, .int .i64 rx), (⟨rb, 4, none⟩, .bool false), (⟨nbs2, 0, none⟩, .int .i64 id), (⟨nbs2, 1, none⟩, .int .i64 ((n : Int))), (⟨nbs2, 2, none⟩, .int .i64 u), (⟨nbs2, 3, none⟩, .int .i64 rx), (⟨nbs2, 4, none⟩, .int .i64 x), (⟨nbs2, 5, none⟩, .int .i64 0), (⟨nbs2, 6, none⟩, .slice aoh HH.length ch), (⟨w.heap.size + 1, 0, none⟩, .int .i64 0), (⟨w.heap.size + 1, 1, none⟩, .int .i64 0), (⟨w.heap.size + 1, 2, none⟩, .int .i64 0), (⟨w.heap.size + 1, 3, none⟩, .int .i64 0), (⟨w.heap.size + 1, 4, none⟩, .int .i64 0), (⟨w.heap.size + 1, 5, none⟩, .int .i64 0), (⟨w.heap.size + 1, 6, none⟩, .slice none 0 0), (⟨w.heap.size, 0, none⟩, .int .i64 id), (⟨w.heap.size, 1, none⟩, .slice (some ⟨gg, 0, none⟩) n cap)] := Kept.set (p := [(⟨rb, 0, none⟩, .int .i64 ri), (⟨rb, 1, none⟩, .int .i64 rg), (⟨rb, 2, none⟩, .int .i64 ry), (⟨rb, 3, none⟩, .int .i64 rx), (⟨rb, 4, none⟩, .bool false), (⟨nbs2, 0, none⟩, .int .i64 id), (⟨nbs2, 1, none⟩, .int .i64 ((n : Int))), (⟨nbs2, 2, none⟩, .int .i64 u)]) K5 (.int .i64 rx) (by simp only; omega) (by simp only [List.cons_append, List.nil_append, List.mem_cons, List.not_mem_nil, or_false]; rintro c9 (rfl | rfl | rfl | rfl | rfl | rfl | rfl | rfl | rfl | rfl | rfl | rfl | rfl | rfl | rfl | rfl | rfl | rfl | rfl | rfl) <;> (intro e9; simp only [Addr.mk.injEq] at e9; omega))
              have x1 := K5.get 8 rfl
              have y1 := K5.fz 8 rfl
              go_upto_region 13 with fail
              obtain ⟨ws1, hx9⟩ : ∃ xq, xq = ws0.setCell ⟨nbs2, 3, none⟩ (.int .i64 rx) := ⟨_, rfl⟩
              have HS1 := Lib.hid (HS5.out.set ⟨nbs2, 3, none⟩ (.int .i64 rx) HNE.out)
              rw [← hx9] at KS1 HS1 ⊢
              clear hx9 x1 y1
              clear q0 z3
              have z3 := KS1.get 3 rfl
              have q1 := KS1.get 9 rfl
              have KS2 : Kept w (ws1.setCell ⟨nbs2, 4, none⟩ (.int .i64 rx)) [(⟨rb, 0, none⟩, .int .i64 ri), (⟨rb, 1, none⟩, .int .i64 rg), (⟨rb, 2, none⟩, .int .i64 ry), (⟨rb, 3, none⟩, .int .i64 rx), (⟨rb, 4, none⟩, .bool false), (⟨nbs2, 0, none⟩, .int .i64 id), (⟨nbs2, 1, none⟩, .int .i64 ((n : Int))), (⟨nbs2, 2, none⟩, .int .i64 u), (⟨nbs2, 3, none⟩, .int .i64 rx), (⟨nbs2, 4, none⟩, .int .i64 rx), (⟨nbs2, 5, none⟩, .int .i64 0), (⟨nbs2, 6, none⟩, .slice aoh HH.length ch), (⟨w.heap.size + 1, 0, none⟩, .int .i64 0), (⟨w.heap.size + 1, 1, none⟩, .int .i64 0), (⟨w.heap.size + 1, 2, none⟩, .int .i64 0), (⟨w.heap.size + 1, 3, none⟩, .int .i64 0), (⟨w.heap.size + 1, 4, none⟩, .int .i64 0), (⟨w.heap.size + 1, 5, none⟩, .int .i64 0), (⟨w.heap.size + 1, 6, none⟩, .slice none 0 0), (⟨w.heap.size, 0, none⟩, .int .i64 id), (⟨w.heap.size, 1, none⟩, .slice (some ⟨gg, 0, none⟩) n cap)] := Kept.set (p := [(⟨rb, 0, none⟩, .int .i64 ri), (⟨rb, 1, none⟩, .int .i64 rg), (⟨rb, 2, none⟩, .int .i64 ry), (⟨rb, 3, none⟩, .int .i64 rx), (⟨rb, 4, none⟩, .bool false), (⟨nbs2, 0, none⟩, .int .i64 id), (⟨nbs2, 1, none⟩, .int .i64 ((n : Int))), (⟨nbs2, 2, none⟩, .int .i64 u), (⟨nbs2, 3, none⟩, .int .i64 rx)]) KS1 (.int .i64 rx) (by simp only; omega) (by simp only [List.cons_append, List.nil_append, List.mem_cons, List.not_mem_nil, or_false]; rintro c9 (rfl | rfl | rfl | rfl | rfl | rfl | rfl | rfl | rfl | rfl | rfl | rfl | rfl | rfl | rfl | rfl | rfl | rfl | rfl | rfl) <;> (intro e9; simp only [Addr.mk.injEq] at e9; omega))
              have x2 := KS1.get 9 rfl
              have y2 := KS1.fz 9 rfl
              go_upto_region 14 with fail
              obtain ⟨ws2, hx9⟩ : ∃ xq, xq = ws1.setCell ⟨nbs2, 4, none⟩ (.int .i64 rx) := ⟨_, rfl⟩
              have HS2 := Lib.hid (HS1.out.set ⟨nbs2, 4, none⟩ (.int .i64 rx) HNE.out)
              rw [← hx9] at KS2 HS2 ⊢
              clear hx9 x2 y2
              clear q1 z3
              have z3 := KS2.get 3 rfl
              have q2 := KS2.get 8 rfl
              have KS3 : Kept w (ws2.setCell ⟨nbs2, 3, none⟩ (.int .i64 rx)) [(⟨rb, 0, none⟩, .int .i64 ri), (⟨rb, 1, none⟩, .int .i64 rg), (⟨rb, 2, none⟩, .int .i64 ry), (⟨rb, 3, none⟩, .int .i64 rx), (⟨rb, 4, none⟩, .bool false), (⟨nbs2, 0, none⟩, .int .i64 id), (⟨nbs2, 1, none⟩, .int .i64 ((n : Int))), (⟨nbs2, 2, none⟩, .int .i64 u), (⟨nbs2, 3, none⟩, .int .i64 rx), (⟨nbs2, 4, none⟩, .int .i64 rx), (⟨nbs2, 5, none⟩, .int .i64 0), (⟨nbs2, 6, none⟩, .slice aoh HH.length ch), (⟨w.heap.size + 1, 0, none⟩, .int .i64 0), (⟨w.heap.size + 1, 1, none⟩, .int .i64 0), (⟨w.heap.size + 1, 2, none⟩, .int .i64 0), (⟨w.heap.size + 1, 3, none⟩, .int .i64 0), (⟨w.heap.size + 1, 4, none⟩, .int .i64 0), (⟨w.heap.size + 1, 5, none⟩, .int .i64 0), (⟨w.heap.size + 1, 6, none⟩, .slice none 0 0), (⟨w.heap.size, 0, none⟩, .int .i64 id), (⟨w.heap.size, 1, none⟩, .slice (some ⟨gg, 0, none⟩) n cap)] := Kept.set (p := [(⟨rb, 0, none⟩, .int .i64 ri), (⟨rb, 1, none⟩, .int .i64 rg), (⟨rb, 2, none⟩, .int .i64 ry), (⟨rb, 3, none⟩, .int .i64 rx), (⟨rb, 4, none⟩, .bool false), (⟨nbs2, 0, none⟩, .int .i64 id), (⟨nbs2, 1, none⟩, .int .i64 ((n : Int))), (⟨nbs2, 2, none⟩, .int .i64 u)]) KS2 (.int .i64 rx) (by simp only; omega) (by simp only [List.cons_append, List.nil_append, List.mem_cons, List.not_mem_nil, or_false]; rintro c9 (rfl | rfl | rfl | rfl | rfl | rfl | rfl | rfl | rfl | rfl | rfl | rfl | rfl | rfl | rfl | rfl | rfl | rfl | rfl | rfl) <;> (intro e9; simp only [Addr.mk.injEq] at e9; omega))
              have x3 := KS2.get 8 rfl
              have y3 := KS2.fz 8 rfl
              go_upto_region 16 with fail
              obtain ⟨ws3, hx9⟩ : ∃ xq, xq = ws2.setCell ⟨nbs2, 3, none⟩ (.int .i64 rx) := ⟨_, rfl⟩
              have HS3 := Lib.hid (HS2.out.set ⟨nbs2, 3, none⟩ (.int .i64 rx) HNE.out)
              rw [← hx9] at KS3 HS3 ⊢
              clear hx9 x3 y3
              clear q2 z3
              have z3 := KS3.get 3 rfl
              have q3 := KS3.get 9 rfl
              have KS4 : Kept w (ws3.setCell ⟨nbs2, 4, none⟩ (.int .i64 rx)) [(⟨rb, 0, none⟩, .int .i64 ri), (⟨rb, 1, none⟩, .int .i64 rg), (⟨rb, 2, none⟩, .int .i64 ry), (⟨rb, 3, none⟩, .int .i64 rx), (⟨rb, 4, none⟩, .bool false), (⟨nbs2, 0, none⟩, .int .i64 id), (⟨nbs2, 1, none⟩, .int .i64 ((n : Int))), (⟨nbs2, 2, none⟩, .int .i64 u), (⟨nbs2, 3, none⟩, .int .i64 rx), (⟨nbs2, 4, none⟩, .int .i64 rx), (⟨nbs2, 5, none⟩, .int .i64 0), (⟨nbs2, 6, none⟩, .slice aoh HH.length ch), (⟨w.heap.size + 1, 0, none⟩, .int .i64 0), (⟨w.heap.size + 1, 1, none⟩, .int .i64 0), (⟨w.heap.size + 1, 2, none⟩, .int .i64 0), (⟨w.heap.size + 1, 3, none⟩, .int .i64 0), (⟨w.heap.size + 1, 4, none⟩, .int .i64 0), (⟨w.heap.size + 1, 5, none⟩, .int .i64 0), (⟨w.heap.size + 1, 6, none⟩, .slice none 0 0), (⟨w.heap.size, 0, none⟩, .int .i64 id), (⟨w.heap.size, 1, none⟩, .slice (some ⟨gg, 0, none⟩) n cap)] := Kept.set (p := [(⟨rb, 0, none⟩, .int .i64 ri), (⟨rb, 1, none⟩, .int .i64 rg), (⟨rb, 2, none⟩, .int .i64 ry), (⟨rb, 3, none⟩, .int .i64 rx), (⟨rb, 4, none⟩, .bool false), (⟨nbs2, 0, none⟩, .int .i64 id), (⟨nbs2, 1, none⟩, .int .i64 ((n : Int))), (⟨nbs2, 2, none⟩, .int .i64 u), (⟨nbs2, 3, none⟩, .int .i64 rx)]) KS3 (.int .i64 rx) (by simp only; omega) (by simp only [List.cons_append, List.nil_append, List.mem_cons, List.not_mem_nil, or_false]; rintro c9 (rfl | rfl | rfl | rfl | rfl | rfl | rfl | rfl | rfl | rfl | rfl | rfl | rfl | rfl | rfl | rfl | rfl | rfl | rfl | rfl) <;> (intro e9; simp only [Addr.mk.injEq] at e9; omega))
              have x4 := KS3.get 9 rfl
              have y4 := KS3.fz 9 rfl
              go_upto_region 17 with fail
              obtain ⟨ws4, hx9⟩ : ∃ xq, xq = ws3.setCell ⟨nbs2, 4, none⟩ (.int .i64 rx) := ⟨_, rfl⟩
              have HS4 := Lib.hid (HS3.out.set ⟨nbs2, 4, none⟩ (.int .i64 rx) HNE.out)
              rw [← hx9] at KS4 HS4 ⊢
              clear hx9 x4 y4
              clear q3 z3
              have z3 := KS4.get 3 rfl
              have q4 := KS4.get 10 rfl
              have KS5 : Kept w (ws4.setCell ⟨nbs2, 5, none⟩ (.int .i64 rx)) [(⟨rb, 0, none⟩, .int .i64 ri), (⟨rb, 1, none⟩, .int .i64 rg), (⟨rb, 2, none⟩, .int .i64 ry), (⟨rb, 3, none⟩, .int .i64 rx), (⟨rb, 4, none⟩, .bool false), (⟨nbs2, 0, none⟩, .int .i64 id), (⟨nbs2, 1, none⟩, .int .i64 ((n : Int))), (⟨nbs2, 2, none⟩, .int .i64 u), (⟨nbs2, 3, none⟩, .int .i64 rx), (⟨nbs2, 4, none⟩, .int .i64 rx), (⟨nbs2, 5, none⟩, .int .i64 rx), (⟨nbs2, 6, none⟩, .slice aoh HH.length ch), (⟨w.heap.size + 1, 0, none⟩, .int .i64 0), (⟨w.heap.size + 1, 1, none⟩, .int .i64 0), (⟨w.heap.size + 1, 2, none⟩, .int .i64 0), (⟨w.heap.size + 1, 3, none⟩, .int .i64 0), (⟨w.heap.size + 1, 4, none⟩, .int .i64 0), (⟨w.heap.size + 1, 5, none⟩, .int .i64 0), (⟨w.heap.size + 1, 6, none⟩, .slice none 0 0), (⟨w.heap.size, 0, none⟩, .int .i64 id), (⟨w.heap.size, 1, none⟩, .slice (some ⟨gg, 0, none⟩) n cap)] := Kept.set (p := [(⟨rb, 0, none⟩, .int .i64 ri), (⟨rb, 1, none⟩, .int .i64 rg), (⟨rb, 2, none⟩, .int .i64 ry), (⟨rb, 3, none⟩, .int .i64 rx), (⟨rb, 4, none⟩, .bool false), (⟨nbs2, 0, none⟩, .int .i64 id), (⟨nbs2, 1, none⟩, .int .i64 ((n : Int))), (⟨nbs2, 2, none⟩, .int .i64 u), (⟨nbs2, 3, none⟩, .int .i64 rx), (⟨nbs2, 4, none⟩, .int .i64 rx)]) KS4 (.int .i64 rx) (by simp only; omega) (by simp only [List.cons_append, List.nil_append, List.mem_cons, List.not_mem_nil, or_false]; rintro c9 (rfl | rfl | rfl | rfl | rfl | rfl | rfl | rfl | rfl | rfl | rfl | rfl | rfl | rfl | rfl | rfl | rfl | rfl | rfl | rfl) <;> (intro e9; simp only [Addr.mk.injEq] at e9; omega))
              have x5 := KS4.get 10 rfl
              have y5 := KS4.fz 10 rfl
              go_upto_region 7 with fail
              obtain ⟨ws5, hx9⟩ : ∃ xq, xq = ws4.setCell ⟨nbs2, 5, none⟩ (.int .i64 rx) := ⟨_, rfl⟩
              have HS5 := Lib.hid (HS4.out.set ⟨nbs2, 5, none⟩ (.int .i64 rx) HNE.out)
              rw [← hx9] at KS5 HS5 ⊢
              clear hx9 x5 y5
              clear q4 z3
              have z3 := KS5.get 3 rfl
              have HKE := Lib.hid (show Kept w ws5 [(⟨nbs2, 0, none⟩, .int .i64 id), (⟨nbs2, 1, none⟩, .int .i64 ((n : Int))), (⟨nbs2, 2, none⟩, .int .i64 (((k + 1 : Nat) : Int) - (spL (l.take (k + 1))).c)), (⟨nbs2, 3, none⟩, .int .i64 ((spL (l.take (k + 1))).mn)), (⟨nbs2, 4, none⟩, .int .i64 ((spL (l.take (k + 1))).mx)), (⟨nbs2, 5, none⟩, .int .i64 ((spL (l.take (k + 1))).s)), (⟨nbs2, 6, none⟩, .slice aoh HH.length ch), (⟨w.heap.size + 1, 0, none⟩, .int .i64 0), (⟨w.heap.size + 1, 1, none⟩, .int .i64 0), (⟨w.heap.size + 1, 2, none⟩, .int .i64 0), (⟨w.heap.size + 1, 3, none⟩, .int .i64 0), (⟨w.heap.size + 1, 4, none⟩, .int .i64 0), (⟨w.heap.size + 1, 5, none⟩, .int .i64 0), (⟨w.heap.size + 1, 6, none⟩, .slice none 0 0), (⟨w.heap.size, 0, none⟩, .int .i64 id), (⟨w.heap.size, 1, none⟩, .slice (some ⟨gg, 0, none⟩) n cap)] by
                rw [NXX.out]
                simp only
                rw [show ((k + 1 : Nat) : Int) - 1 = u by have := HU.out; have := HC0.out; omega]
                exact KS5.sub (by intro p9 hp9; simp only [List.mem_cons, List.not_mem_nil, or_false] at hp9; rcases hp9 with rfl | rfl | rfl | rfl | rfl | rfl | rfl | rfl | rfl | rfl | rfl | rfl | rfl | rfl | rfl | rfl <;> simp))
              have HFV := Lib.hid (show Value.bool false = .bool (decide ((spL (l.take (k + 1))).c = 0)) from ret_b (by rw [NXX.out]; rfl))
              clear z3 z4
              try clear KS5
              go_wp2
              go_roundw
              case rel => exact ⟨k + 1, by omega, by go_num, HFV.out, HKE.out, HS5.out⟩
              case measure => simp [intOf]; omega
            · skip
              have NXX := Lib.hid (show spL (l.take (k + 1)) = ⟨c + 1, min m rx, max x rx, s + rx⟩ from NX.out.trans (sp_more rfl hc0))
              have hd0 : decide (c = 0) = false := decide_eq_false hc0
              rw [hd0]
              have hw9 : IntKind.i64.wrap (s + rx) = s + rx := by rw [IntKind.wrap_i64]; omega
              have HC0 := Lib.hid hc0
              clear hc0
              have q0 := K5.get 8 rfl
              have KS1 : Kept w (ws0.setCell ⟨nbs2, 3, none⟩ (.int .i64 (min m rx))) [(⟨rb, 0, none⟩, .int .i64 ri), (⟨rb, 1, none⟩, .int .i64 rg), (⟨rb, 2, none⟩, .int .i64 ry), (⟨rb, 3, none⟩, .int .i64 rx), (⟨rb, 4, none⟩, .bool false), (⟨nbs2, 0, none⟩, .int .i64 id), (⟨nbs2, 1, none⟩, .int .i64 ((n : Int))), (⟨nbs2, 2, none⟩, .int .i64 u), (⟨nbs2, 3, none⟩, .int .i64 (min m rx)), (⟨nbs2, 4, none⟩, .int .i64 x), (⟨nbs2, 5, none⟩, .int .i64 s), (⟨nbs2, 6, none⟩, .slice aoh HH.length ch), (⟨w.heap.size + 1, 0, none⟩, .int .i64 0), (⟨w.heap.size + 1, 1, none⟩, .int .i64 0), (⟨w.heap.size + 1, 2, none⟩, .int .i64 0), (⟨w.heap.size + 1, 3, none⟩, .int .i64 0), (⟨w.heap.size + 1, 4, none⟩, .int .i64 0), (⟨w.heap.size + 1, 5, none⟩, .int .i64 0), (⟨w.heap.size + 1, 6, none⟩, .slice none 0 0), (⟨w.heap.size, 0, none⟩, .int .i64 id), (⟨w.heap.size, 1, none⟩, .slice (some ⟨gg, 0, none⟩) n cap)] := Kept.set (p := [(⟨rb, 0, none⟩, .int .i64 ri), (⟨rb, 1, none⟩, .int .i64 rg), (⟨rb, 2, none⟩, .int .i64 ry), (⟨rb, 3, none⟩, .int .i64 rx), (⟨rb, 4, none⟩, .bool false), (⟨nbs2, 0, none⟩, .int .i64 id), (⟨nbs2, 1, none⟩, .int .i64 ((n : Int))), (⟨nbs2, 2, none⟩, .int .i64 u)]) K5 (.int .i64 (min m rx)) (by simp only; omega) (by simp only [List.cons_append, List.nil_append, List.mem_cons, List.not_mem_nil, or_false]; rintro c9 (rfl | rfl | rfl | rfl | rfl | rfl | rfl | rfl | rfl | rfl | rfl | rfl | rfl | rfl | rfl | rfl | rfl | rfl | rfl | rfl) <;> (intro e9; simp only [Addr.mk.injEq] at e9; omega))
              have x1 := K5.get 8 rfl
              have y1 := K5.fz 8 rfl
              go_upto_region 16 with fail
              obtain ⟨ws1, hx9⟩ : ∃ xq, xq = ws0.setCell ⟨nbs2, 3, none⟩ (.int .i64 (min m rx)) := ⟨_, rfl⟩
              have HS1 := Lib.hid (HS5.out.set ⟨nbs2, 3, none⟩ (.int .i64 (min m rx)) HNE.out)
              rw [← hx9] at KS1 HS1 ⊢
              clear hx9 x1 y1
              clear q0 z3
              have z3 := KS1.get 3 rfl
              have q1 := KS1.get 9 rfl
              have KS2 : Kept w (ws1.setCell ⟨nbs2, 4, none⟩ (.int .i64 (max x rx))) [(⟨rb, 0, none⟩, .int .i64 ri), (⟨rb, 1, none⟩, .int .i64 rg), (⟨rb, 2, none⟩, .int .i64 ry), (⟨rb, 3, none⟩, .int .i64 rx), (⟨rb, 4, none⟩, .bool false), (⟨nbs2, 0, none⟩, .int .i64 id), (⟨nbs2, 1, none⟩, .int .i64 ((n : Int))), (⟨nbs2, 2, none⟩, .int .i64 u), (⟨nbs2, 3, none⟩, .int .i64 (min m rx)), (⟨nbs2, 4, none⟩, .int .i64 (max x rx)), (⟨nbs2, 5, none⟩, .int .i64 s), (⟨nbs2, 6, none⟩, .slice aoh HH.length ch), (⟨w.heap.size + 1, 0, none⟩, .int .i64 0), (⟨w.heap.size + 1, 1, none⟩, .int .i64 0), (⟨w.heap.size + 1, 2, none⟩, .int .i64 0), (⟨w.heap.size + 1, 3, none⟩, .int .i64 0), (⟨w.heap.size + 1, 4, none⟩, .int .i64 0), (⟨w.heap.size + 1, 5, none⟩, .int .i64 0), (⟨w.heap.size + 1, 6, none⟩, .slice none 0 0), (⟨w.heap.size, 0, none⟩, .int .i64 id), (⟨w.heap.size, 1, none⟩, .slice (some ⟨gg, 0, none⟩) n cap)] := Kept.set (p := [(⟨rb, 0, none⟩, .int .i64 ri), (⟨rb, 1, none⟩, .int .i64 rg), (⟨rb, 2, none⟩, .int .i64 ry), (⟨rb, 3, none⟩, .int .i64 rx), (⟨rb, 4, none⟩, .bool false), (⟨nbs2, 0, none⟩, .int .i64 id), (⟨nbs2, 1, none⟩, .int .i64 ((n : Int))), (⟨nbs2, 2, none⟩, .int .i64 u), (⟨nbs2, 3, none⟩, .int .i64 (min m rx))]) KS1 (.int .i64 (max x rx)) (by simp only; omega) (by simp only [List.cons_append, List.nil_append, List.mem_cons, List.not_mem_nil, or_false]; rintro c9 (rfl | rfl | rfl | rfl | rfl | rfl | rfl | rfl | rfl | rfl | rfl | rfl | rfl | rfl | rfl | rfl | rfl | rfl | rfl | rfl) <;> (intro e9; simp only [Addr.mk.injEq] at e9; omega))
              have x2 := KS1.get 9 rfl
              have y2 := KS1.fz 9 rfl
              go_upto_region 17 with fail
              obtain ⟨ws2, hx9⟩ : ∃ xq, xq = ws1.setCell ⟨nbs2, 4, none⟩ (.int .i64 (max x rx)) := ⟨_, rfl⟩
              have HS2 := Lib.hid (HS1.out.set ⟨nbs2, 4, none⟩ (.int .i64 (max x rx)) HNE.out)
              rw [← hx9] at KS2 HS2 ⊢
              clear hx9 x2 y2
              clear q1 z3
              have z3 := KS2.get 3 rfl
              have q2 := KS2.get 10 rfl
              have KS3 : Kept w (ws2.setCell ⟨nbs2, 5, none⟩ (.int .i64 (s + rx))) [(⟨rb, 0, none⟩, .int .i64 ri), (⟨rb, 1, none⟩, .int .i64 rg), (⟨rb, 2, none⟩, .int .i64 ry), (⟨rb, 3, none⟩, .int .i64 rx), (⟨rb, 4, none⟩, .bool false), (⟨nbs2, 0, none⟩, .int .i64 id), (⟨nbs2, 1, none⟩, .int .i64 ((n : Int))), (⟨nbs2, 2, none⟩, .int .i64 u), (⟨nbs2, 3, none⟩, .int .i64 (min m rx)), (⟨nbs2, 4, none⟩, .int .i64 (max x rx)), (⟨nbs2, 5, none⟩, .int .i64 (s + rx)), (⟨nbs2, 6, none⟩, .slice aoh HH.length ch), (⟨w.heap.size + 1, 0, none⟩, .int .i64 0), (⟨w.heap.size + 1, 1, none⟩, .int .i64 0), (⟨w.heap.size + 1, 2, none⟩, .int .i64 0), (⟨w.heap.size + 1, 3, none⟩, .int .i64 0), (⟨w.heap.size + 1, 4, none⟩, .int .i64 0), (⟨w.heap.size + 1, 5, none⟩, .int .i64 0), (⟨w.heap.size + 1, 6, none⟩, .slice none 0 0), (⟨w.heap.size, 0, none⟩, .int .i64 id), (⟨w.heap.size, 1, none⟩, .slice (some ⟨gg, 0, none⟩) n cap)] := Kept.set (p := [(⟨rb, 0, none⟩, .int .i64 ri), (⟨rb, 1, none⟩, .int .i64 rg), (⟨rb, 2, none⟩, .int .i64 ry), (⟨rb, 3, none⟩, .int .i64 rx), (⟨rb, 4, none⟩, .bool false), (⟨nbs2, 0, none⟩, .int .i64 id), (⟨nbs2, 1, none⟩, .int .i64 ((n : Int))), (⟨nbs2, 2, none⟩, .int .i64 u), (⟨nbs2, 3, none⟩, .int .i64 (min m rx)), (⟨nbs2, 4, none⟩, .int .i64 (max x rx))]) KS2 (.int .i64 (s + rx)) (by simp only; omega) (by simp only [List.cons_append, List.nil_append, List.mem_cons, List.not_mem_nil, or_false]; rintro c9 (rfl | rfl | rfl | rfl | rfl | rfl | rfl | rfl | rfl | rfl | rfl | rfl | rfl | rfl | rfl | rfl | rfl | rfl | rfl | rfl) <;> (intro e9; simp only [Addr.mk.injEq] at e9; omega))
              have x3 := KS2.get 10 rfl
              have y3 := KS2.fz 10 rfl
              go_upto_region 7 with fail
              obtain ⟨ws3, hx9⟩ : ∃ xq, xq = ws2.setCell ⟨nbs2, 5, none⟩ (.int .i64 (s + rx)) := ⟨_, rfl⟩
              have HS3 := Lib.hid (HS2.out.set ⟨nbs2, 5, none⟩ (.int .i64 (s + rx)) HNE.out)
              rw [← hx9] at KS3 HS3 ⊢
              clear hx9 x3 y3
              clear q2 z3
              have z3 := KS3.get 3 rfl
              have HKE := Lib.hid (show Kept w ws3 [(⟨nbs2, 0, none⟩, .int .i64 id), (⟨nbs2, 1, none⟩, .int .i64 ((n : Int))), (⟨nbs2, 2, none⟩, .int .i64 (((k + 1 : Nat) : Int) - (spL (l.take (k + 1))).c)), (⟨nbs2, 3, none⟩, .int .i64 ((spL (l.take (k + 1))).mn)), (⟨nbs2, 4, none⟩, .int .i64 ((spL (l.take (k + 1))).mx)), (⟨nbs2, 5, none⟩, .int .i64 ((spL (l.take (k + 1))).s)), (⟨nbs2, 6, none⟩, .slice aoh HH.length ch), (⟨w.heap.size + 1, 0, none⟩, .int .i64 0), (⟨w.heap.size + 1, 1, none⟩, .int .i64 0), (⟨w.heap.size + 1, 2, none⟩, .int .i64 0), (⟨w.heap.size + 1, 3, none⟩, .int .i64 0), (⟨w.heap.size + 1, 4, none⟩, .int .i64 0), (⟨w.heap.size + 1, 5, none⟩, .int .i64 0), (⟨w.heap.size + 1, 6, none⟩, .slice none 0 0), (⟨w.heap.size, 0, none⟩, .int .i64 id), (⟨w.heap.size, 1, none⟩, .slice (some ⟨gg, 0, none⟩) n cap)] by
                rw [NXX.out]
                simp only
                rw [show ((k + 1 : Nat) : Int) - (c + 1) = u by have := HU.out; omega]
                exact KS3.sub (by intro p9 hp9; simp only [List.mem_cons, List.not_mem_nil, or_false] at hp9; rcases hp9 with rfl | rfl | rfl | rfl | rfl | rfl | rfl | rfl | rfl | rfl | rfl | rfl | rfl | rfl | rfl | rfl <;> simp))
              have HFV := Lib.hid (show Value.bool false = .bool (decide ((spL (l.take (k + 1))).c = 0)) from ret_b (by rw [NXX.out]; exact decide_eq_false (by simp only; omega)))
              clear z3 z4
              try clear KS3
              go_wp2
              go_roundw
              case rel => exact ⟨k + 1, by omega, by go_num, HFV.out, HKE.out, HS3.out⟩
              case measure => simp [intOf]; omega
          · skip
            have hc9 := BD'.out
            have NXX := Lib.hid (show spL (l.take (k + 1)) = ⟨c, m, x, s⟩ from NX.out.trans (sp_null rfl))
            have hw9 : IntKind.i64.wrap (u + 1) = u + 1 := by rw [IntKind.wrap_i64]; omega
            clear hc9
            have q0 := K5.get 7 rfl
            have KS1 : Kept w (ws0.setCell ⟨nbs2, 2, none⟩ (.int .i64 (u + 1))) [(⟨rb, 0, none⟩, .int .i64 ri), (⟨rb, 1, none⟩, .int .i64 rg), (⟨rb, 2, none⟩, .int .i64 ry), (⟨rb, 3, none⟩, .int .i64 rx), (⟨rb, 4, none⟩, .bool true), (⟨nbs2, 0, none⟩, .int .i64 id), (⟨nbs2, 1, none⟩, .int .i64 ((n : Int))), (⟨nbs2, 2, none⟩, .int .i64 (u + 1)), (⟨nbs2, 3, none⟩, .int .i64 m), (⟨nbs2, 4, none⟩, .int .i64 x), (⟨nbs2, 5, none⟩, .int .i64 s), (⟨nbs2, 6, none⟩, .slice aoh HH.length ch), (⟨w.heap.size + 1, 0, none⟩, .int .i64 0), (⟨w.heap.size + 1, 1, none⟩, .int .i64 0), (⟨w.heap.size + 1, 2, none⟩, .int .i64 0), (⟨w.heap.size + 1, 3, none⟩, .int .i64 0), (⟨w.heap.size + 1, 4, none⟩, .int .i64 0), (⟨w.heap.size + 1, 5, none⟩, .int .i64 0), (⟨w.heap.size + 1, 6, none⟩, .slice none 0 0), (⟨w.heap.size, 0, none⟩, .int .i64 id), (⟨w.heap.size, 1, none⟩, .slice (some ⟨gg, 0, none⟩) n cap)] := Kept.set (p := [(⟨rb, 0, none⟩, .int .i64 ri), (⟨rb, 1, none⟩, .int .i64 rg), (⟨rb, 2, none⟩, .int .i64 ry), (⟨rb, 3, none⟩, .int .i64 rx), (⟨rb, 4, none⟩, .bool true), (⟨nbs2, 0, none⟩, .int .i64 id), (⟨nbs2, 1, none⟩, .int .i64 ((n : Int)))]) K5 (.int .i64 (u + 1)) (by simp only; omega) (by simp only [List.cons_append, List.nil_append, List.mem_cons, List.not_mem_nil, or_false]; rintro c9 (rfl | rfl | rfl | rfl | rfl | rfl | rfl | rfl | rfl | rfl | rfl | rfl | rfl | rfl | rfl | rfl | rfl | rfl | rfl | rfl) <;> (intro e9; simp only [Addr.mk.injEq] at e9; omega))
            have x1 := K5.get 7 rfl
            have y1 := K5.fz 7 rfl
            go_upto_region 7 with fail
            obtain ⟨ws1, hx9⟩ : ∃ xq, xq = ws0.setCell ⟨nbs2, 2, none⟩ (.int .i64 (u + 1)) := ⟨_, rfl⟩
            have HS1 := Lib.hid (HS5.out.set ⟨nbs2, 2, none⟩ (.int .i64 (u + 1)) HNE.out)
            rw [← hx9] at KS1 HS1 ⊢
            clear hx9 x1 y1
            clear q0
            have HKE := Lib.hid (show Kept w ws1 [(⟨nbs2, 0, none⟩, .int .i64 id), (⟨nbs2, 1, none⟩, .int .i64 ((n : Int))), (⟨nbs2, 2, none⟩, .int .i64 (((k + 1 : Nat) : Int) - (spL (l.take (k + 1))).c)), (⟨nbs2, 3, none⟩, .int .i64 ((spL (l.take (k + 1))).mn)), (⟨nbs2, 4, none⟩, .int .i64 ((spL (l.take (k + 1))).mx)), (⟨nbs2, 5, none⟩, .int .i64 ((spL (l.take (k + 1))).s)), (⟨nbs2, 6, none⟩, .slice aoh HH.length ch), (⟨w.heap.size + 1, 0, none⟩, .int .i64 0), (⟨w.heap.size + 1, 1, none⟩, .int .i64 0), (⟨w.heap.size + 1, 2, none⟩, .int .i64 0), (⟨w.heap.size + 1, 3, none⟩, .int .i64 0), (⟨w.heap.size + 1, 4, none⟩, .int .i64 0), (⟨w.heap.size + 1, 5, none⟩, .int .i64 0), (⟨w.heap.size + 1, 6, none⟩, .slice none 0 0), (⟨w.heap.size, 0, none⟩, .int .i64 id), (⟨w.heap.size, 1, none⟩, .slice (some ⟨gg, 0, none⟩) n cap)] by
              rw [NXX.out]
              simp only
              rw [show ((k + 1 : Nat) : Int) - c = u + 1 by have := HU.out; omega]
              exact KS1.sub (by intro p9 hp9; simp only [List.mem_cons, List.not_mem_nil, or_false] at hp9; rcases hp9 with rfl | rfl | rfl | rfl | rfl | rfl | rfl | rfl | rfl | rfl | rfl | rfl | rfl | rfl | rfl | rfl <;> simp))
            have HFV := Lib.hid (show Value.bool (decide (c = 0)) = .bool (decide ((spL (l.take (k + 1))).c = 0)) from ret_b (by rw [NXX.out]))
            clear z3 z4
            try clear KS1
            go_wp2
            go_roundw
            case rel => exact ⟨k + 1, by omega, by go_num, HFV.out, HKE.out, HS1.out⟩
            case measure => simp [intOf]; omega
        · obtain rfl : k = n := by omega
          have hsd : decide ((k : Int) < (k : Int)) = false := decide_eq_false (by omega)
          have AN2 := Lib.hid (show sumB id l = ⟨id, k, u, m, x, s, HH⟩ by rw [AN.out, HU.out, show spL l = ⟨c, m, x, s⟩ from by rw [HAC.out, show l.take k = l from by rw [← HL.out, List.take_length]]])
          have hNN := HKK.lt 0 rfl
          have K7 := (HKK.sub (l' := [(⟨w.heap.size + 1, 0, none⟩, .int .i64 0), (⟨w.heap.size + 1, 1, none⟩, .int .i64 0), (⟨w.heap.size + 1, 2, none⟩, .int .i64 0), (⟨w.heap.size + 1, 3, none⟩, .int .i64 0), (⟨w.heap.size + 1, 4, none⟩, .int .i64 0), (⟨w.heap.size + 1, 5, none⟩, .int .i64 0), (⟨w.heap.size + 1, 6, none⟩, .slice none 0 0), (⟨nbs2, 0, none⟩, .int .i64 id), (⟨nbs2, 1, none⟩, .int .i64 ((k : Int))), (⟨nbs2, 2, none⟩, .int .i64 u), (⟨nbs2, 3, none⟩, .int .i64 m), (⟨nbs2, 4, none⟩, .int .i64 x), (⟨nbs2, 5, none⟩, .int .i64 s), (⟨nbs2, 6, none⟩, .slice aoh HH.length ch)]) (by intro p9 hp9; simp only [List.mem_cons, List.not_mem_nil, or_false] at hp9; rcases hp9 with rfl | rfl | rfl | rfl | rfl | rfl | rfl | rfl | rfl | rfl | rfl | rfl | rfl | rfl <;> simp)).setB7 (.int .i64 id) (.int .i64 ((k : Int))) (.int .i64 u) (.int .i64 m) (.int .i64 x) (.int .i64 s) (.slice aoh HH.length ch) (by omega) (by simp only [List.mem_cons, List.not_mem_nil, or_false]; rintro c9 (rfl | rfl | rfl | rfl | rfl | rfl | rfl) <;> (dsimp only; omega))
          have HK7 := Lib.hid K7.1
          have HS9 := Lib.hid (HS0.out.setB7 (w.heap.size + 1) (.int .i64 id) (.int .i64 ((k : Int))) (.int .i64 u) (.int .i64 m) (.int .i64 x) (.int .i64 s) (.slice aoh HH.length ch) (fun j hj => by have := HFW.out j hj; omega))
          have HF9 := Lib.hid (show ∀ j ∈ fph, w.heap.size ≤ j from fun j hj => by have := HFW.out j hj; omega)
          have k0 := HKK.get 7 rfl
          have f0 := HKK.fz 7 rfl
          have e0 := HKK.get 0 rfl
          have k1 := HKK.get 8 rfl
          have f1 := HKK.fz 8 rfl
          have e1 := HKK.get 1 rfl
          have k2 := HKK.get 9 rfl
          have f2 := HKK.fz 9 rfl
          have e2 := HKK.get 2 rfl
          have k3 := HKK.get 10 rfl
          have f3 := HKK.fz 10 rfl
          have e3 := HKK.get 3 rfl
          have k4 := HKK.get 11 rfl
          have f4 := HKK.fz 11 rfl
          have e4 := HKK.get 4 rfl
          have k5 := HKK.get 12 rfl
          have f5 := HKK.fz 12 rfl
          have e5 := HKK.get 5 rfl
          have k6 := HKK.get 13 rfl
          have f6 := HKK.fz 13 rfl
          have e6 := HKK.get 6 rfl
          have z := HKK.lt 7 rfl
          clear K7 HKK b0 b1 b8 b9 hu0 hu1 hNN
          go_wp2
          exact bodyPost_ret (v := .agg #[.int .i64 id, .int .i64 (k : Int), .int .i64 u, .int .i64 m, .int .i64 x, .int .i64 s, .slice aoh HH.length ch]) (by simp [results, Try.results49, go_sem, k0, k1, k2, k3, k4, k5, k6, z]) rfl ⟨_, fph, by rw [AN2.out], by rw [AN2.out]; exact HS9.out, hndh, HF9.out, HK7.out⟩
    · skip
      dsimp only [suS9]
      go_simp
      have KCs1 := KDs.alloc7 (.int .i64 0) (.int .i64 0) (.int .i64 0) (.int .i64 0) (.int .i64 0) (.int .i64 0) (.slice none 0 0) 77 wDs.heap.size rfl
      have hbs1 : Below wDs.heap.size wDs (wDs.alloc (.cells #[.int .i64 0, .int .i64 0, .int .i64 0, .int .i64 0, .int .i64 0, .int .i64 0, .slice none 0 0] 77)) := (Below.refl _ _).alloc (Nat.le_refl _) _
      obtain ⟨nbs1, hN1⟩ : ∃ x, x = wDs.heap.size := ⟨_, rfl⟩
      refine hK.out _ _ ?_ (fun hHs1 => ?_)
      · exact ⟨KCs1.get 14 rfl, KCs1.get 15 rfl⟩
      clear hK K
      try simp only [Act.put, suS9, List.setIfInBounds_toArray, List.set_cons_zero, List.set_cons_succ]
      obtain ⟨wcs1, hx9⟩ : ∃ x, x = wDs.alloc (.cells #[.int .i64 0, .int .i64 0, .int .i64 0, .int .i64 0, .int .i64 0, .int .i64 0, .slice none 0 0] 77) := ⟨_, rfl⟩
      rw [← hx9] at KCs1 hHs1 hbs1 ⊢
      clear hx9
      have HNs1 := Lib.hid hN1
      rw [← hN1] at KCs1 ⊢
      clear hN1
      refine wpAnyH_ready (rs := [7]) (by kernel_rfl) (by simp) ?_
      refine AllReadyH.cons (o := suS7) rfl (fun K hK => ?_) AllReadyH.nil
      dsimp only [suS7]
      go_simp
      go_at_call 35
      (with_reducible refine (HI.out _ (HV.out.below (Kept.below KCs1))).mono ?_)
      rintro e9 wcs2 ⟨vh, fph, rfl, hsh, hndh, hfh, hbs2⟩
      obtain ⟨aoh, ch, rfl, _, hVh⟩ := ints_open hsh
      have KCs2 := KCs1.step hbs2
      refine hK.out _ _ ?_ (fun hHs2 => ?_)
      · exact ⟨KCs2.get 14 rfl, KCs2.get 15 rfl⟩
      clear hK K
      try simp only [Act.put, suS7, List.setIfInBounds_toArray, List.set_cons_zero, List.set_cons_succ]
      refine wpAnyH_take (i := 8) (oi := suS8) (v := .agg #[.int .i64 id, .int .i64 ((n : Int)), .int .i64 0, .int .i64 0, .int .i64 0, .int .i64 0, .slice aoh HH.length ch]) rfl (by kernel_rfl) (by kernel_rfl) (by kernel_rfl) (fun _ _ _ h => h) (Or.inl ⟨by rfl, ?_⟩) (by assumption) ?_
      · intro w8 hS8
        (try dsimp only at hS8)
        dsimp only [suS8]
        (first | (go_simp; done) | (go_simp; simp_all; done) | (simp_all [go_sem]; done))
      try simp only [Act.put, suS8, List.setIfInBounds_toArray, List.set_cons_zero, List.set_cons_succ]
      refine wpAnyH_ready (rs := [10]) (by kernel_rfl) (by simp) ?_
      refine AllReadyH.cons (o := suS10) rfl (fun K hK => ?_) AllReadyH.nil
      have k0 := KCs2.get 0 rfl
      have f0 := KCs2.fz 0 rfl
      have k1 := KCs2.get 1 rfl
      have f1 := KCs2.fz 1 rfl
      have k2 := KCs2.get 2 rfl
      have f2 := KCs2.fz 2 rfl
      have k3 := KCs2.get 3 rfl
      have f3 := KCs2.fz 3 rfl
      have k4 := KCs2.get 4 rfl
      have f4 := KCs2.fz 4 rfl
      have k5 := KCs2.get 5 rfl
      have f5 := KCs2.fz 5 rfl
      have k6 := KCs2.get 6 rfl
      have f6 := KCs2.fz 6 rfl
      have hN9 := (show w.heap.size + 1 < nbs1 from by have h1 := HNs1.out; have h2 := KDs.lt 0 rfl; simp only at h2; omega)
      dsimp only [suS10]
      go_simp
      have KCs3 := KCs2.setB7 (.int .i64 id) (.int .i64 ((n : Int))) (.int .i64 0) (.int .i64 0) (.int .i64 0) (.int .i64 0) (.slice aoh HH.length ch) (by omega) (by simp only [List.mem_cons, List.not_mem_nil, or_false]; rintro c9 (rfl | rfl | rfl | rfl | rfl | rfl | rfl | rfl | rfl) <;> (dsimp only; omega))
      refine hK.out _ _ ?_ (fun hHs3 => ?_)
      · exact ⟨KCs3.get 14 rfl, KCs3.get 15 rfl⟩
      clear hK K
      try simp only [Act.put, suS10, List.setIfInBounds_toArray, List.set_cons_zero, List.set_cons_succ]
      refine wpAnyH_done (by kernel_rfl) ?_ _
      have HN9 := Lib.hid hN9
      have hfw : ∀ k ∈ fph, w.heap.size + 1 < k := fun k hk => by
        have h1 := hfh k hk
        have h2 := KCs1.lt 7 rfl
        simp only at h2
        omega
      have HNE := Lib.hid (show ∀ k ∈ fph, k ≠ nbs1 from (fun k hk => by have h1 := hfh k hk; have h2 := KCs1.lt 0 rfl; simp only at h2; omega))
      have HFW := Lib.hid hfw
      have HSS := Lib.hid (hsh.setB7 nbs1 (.int .i64 id) (.int .i64 ((n : Int))) (.int .i64 0) (.int .i64 0) (.int .i64 0) (.int .i64 0) (.slice aoh HH.length ch) HNE.out)
      have HKX := Lib.hid KCs3
      clear k0 k1 k2 k3 k4 k5 k6 f0 f1 f2 f3 f4 f5 f6 hfw hfh hsh
      obtain ⟨wx, hwx⟩ : ∃ x, x = (((((((wcs2.setCell ⟨nbs1, 0, none⟩ (.int .i64 id)).setCell ⟨nbs1, 1, none⟩ (.int .i64 ((n : Int)))).setCell ⟨nbs1, 2, none⟩ (.int .i64 0)).setCell ⟨nbs1, 3, none⟩ (.int .i64 0)).setCell ⟨nbs1, 4, none⟩ (.int .i64 0)).setCell ⟨nbs1, 5, none⟩ (.int .i64 0)).setCell ⟨nbs1, 6, none⟩ (.slice aoh HH.length ch)) := ⟨_, rfl⟩
      rw [← hwx] at HKX HSS ⊢
      clear hwx
      go_wp2_with fail
      go_loopw [4, 5] (fun fv iv wr => ∃ k : Nat, k ≤ n ∧ iv = .int .i64 k ∧ fv = .bool (decide ((spL (l.take k)).c = 0)) ∧ Hid (Kept w wr [(⟨nbs1, 0, none⟩, .int .i64 id), (⟨nbs1, 1, none⟩, .int .i64 ((n : Int))), (⟨nbs1, 2, none⟩, .int .i64 ((k : Int) - (spL (l.take k)).c)), (⟨nbs1, 3, none⟩, .int .i64 ((spL (l.take k)).mn)), (⟨nbs1, 4, none⟩, .int .i64 ((spL (l.take k)).mx)), (⟨nbs1, 5, none⟩, .int .i64 ((spL (l.take k)).s)), (⟨nbs1, 6, none⟩, .slice aoh HH.length ch), (⟨w.heap.size + 1, 0, none⟩, .int .i64 0), (⟨w.heap.size + 1, 1, none⟩, .int .i64 0), (⟨w.heap.size + 1, 2, none⟩, .int .i64 0), (⟨w.heap.size + 1, 3, none⟩, .int .i64 0), (⟨w.heap.size + 1, 4, none⟩, .int .i64 0), (⟨w.heap.size + 1, 5, none⟩, .int .i64 0), (⟨w.heap.size + 1, 6, none⟩, .slice none 0 0), (⟨w.heap.size, 0, none⟩, .int .i64 id), (⟨w.heap.size, 1, none⟩, .slice ao n cap)]) ∧ Hid (SliceRep intTy wr (.slice aoh HH.length ch) HH fph)) (fun _ iv _ => n - (intOf iv).toNat)
      case atStart => exact ⟨0, Nat.zero_le _, rfl, rfl, HKX.out, HSS.out⟩
      case round =>
        obtain ⟨k, hk, rfl, rfl, HK, HS0⟩ := hrel
        clear HKX HSS
        have hN9 := HN9.out
        obtain ⟨ac, hac⟩ : ∃ z, z = spL (l.take k) := ⟨_, rfl⟩
        have HKK := HK.out
        rw [← hac] at HKK
        rw [← hac]
        have BD := spL_bound HOK.out k (by rw [HL.out]; exact hk)
        rw [← hac] at BD
        obtain ⟨c, m, x, s⟩ := ac
        simp only at HKK
        have HAC := Lib.hid hac
        have BD' := Lib.hid BD
        obtain ⟨b0, b1, _, _, _, _, _, _, b8, b9⟩ := BD
        simp only at b0 b1 b8 b9
        simp only
        clear hac
        obtain ⟨u, hu⟩ : ∃ u, u = (k : Int) - c := ⟨_, rfl⟩
        rw [← hu] at HKK
        have hu0 : 0 ≤ u := by omega
        have hu1 : u ≤ 6 := by omega
        have HU := Lib.hid hu
        clear hu
        have y0 := HKK.get 14 rfl
        have y1 := HKK.get 15 rfl
        by_cases hlt : k < n
        · have hkI : (k : Int) < (n : Int) := by omega
          obtain ⟨gg, rfl, hg, hR⟩ := (HV.out.below HKK.1).resolve_left (by omega)
          have hrow := hR k hlt
          obtain ⟨r, hr⟩ : ∃ r, r = Rn l k := ⟨_, rfl⟩
          rw [← hr] at hrow
          have hrk : rowB r.i r.g r.y r.x r.nl = true := by rw [hr, Rn_at (by rw [HL.out]; exact hlt)]; exact HOK.out k (by rw [HL.out]; exact hlt)
          have NX := Lib.hid (show spL (l.take (k + 1)) = Sp.row ⟨c, m, x, s⟩ r by rw [spL_take (by rw [HL.out]; exact hlt), ← HAC.out, hr, Rn_at (by rw [HL.out]; exact hlt)])
          obtain ⟨c0, c1, c2, c3, c4⟩ := hrow
          obtain ⟨ri, rg, ry, rx, rn⟩ := r
          simp only at c0 c1 c2 c3 c4 hrk
          obtain ⟨hx0, hx1⟩ := (rowB_of hrk).2.2.2.1
          have K5 := HKK.alloc5 (.int .i64 ri) (.int .i64 rg) (.int .i64 ry) (.int .i64 rx) (.bool rn) 36 wr.heap.size rfl
          have HS5 := Lib.hid (HS0.out.step ((Below.refl wr.heap.size wr).alloc (Nat.le_refl _) (.cells #[.int .i64 ri, .int .i64 rg, .int .i64 ry, .int .i64 rx, .bool rn] 36)))
          have hrb : w.heap.size + 1 < wr.heap.size ∧ nbs1 < wr.heap.size := ⟨by have h := HKK.lt 7 rfl; exact h, by have h := HKK.lt 0 rfl; exact h⟩
          obtain ⟨hrb0, hrb1⟩ := hrb
          obtain ⟨rb, hrb⟩ : ∃ x, x = wr.heap.size := ⟨_, rfl⟩
          go_upto_region 9 with fail
          obtain ⟨ws0, hx9⟩ : ∃ x, x = wr.alloc (.cells #[.int .i64 ri, .int .i64 rg, .int .i64 ry, .int .i64 rx, .bool rn] 36) := ⟨_, rfl⟩
          rw [← hx9] at K5 HS5 ⊢
          clear hx9
          rw [← hrb] at K5 hrb0 hrb1 ⊢
          clear hrb hr hrk hR c0 c1 c2 c3 c4 y0 y1 HKK
          have z3 := K5.get 3 rfl
          have z4 := K5.get 4 rfl
          cases rn
          · by_cases hc0 : c = 0
            · skip
              have NXX := Lib.hid (show spL (l.take (k + 1)) = ⟨1, rx, rx, rx⟩ from NX.out.trans (sp_first rfl hc0))
              have hs0 : s = 0 := by have h := BD'.out.2.2.1 hc0; injection h
              have hd0 : decide (c = 0) = true := decide_eq_true hc0
              rw [hd0]
              subst hs0
              have HC0 := Lib.hid hc0
              clear hc0
              have q0 := K5.get 8 rfl
              have KS1 : Kept w (ws0.setCell ⟨nbs1, 3, none⟩ (.int .i64 rx)) [(⟨rb, 0, none⟩, .int .i64 ri), (⟨rb, 1, none⟩, .int .i64 rg), (⟨rb, 2, none⟩, .int .i64 ry), (⟨rb, 3, none⟩, .int .i64 rx), (⟨rb, 4, none⟩, .bool false), (⟨nbs1, 0, none⟩, .int .i64 id), (⟨nbs1, 1, none⟩, .int .i64 ((n : Int))), (⟨nbs1, 2, none⟩, .int .i64 u), (⟨nbs1, 3, none⟩, .int .i64 rx), (⟨nbs1, 4, none⟩, .int .i64 x), (⟨nbs1, 5, none⟩, .int .i64 0), (⟨nbs1, 6, none⟩, .slice aoh HH.length ch), (⟨w.heap.size + 1, 0, none⟩, .int .i64 0), (⟨w.heap.size + 1, 1, none⟩, .int .i64 0), (⟨w.heap.size + 1, 2, none⟩, .int .i64 0), (⟨w.heap.size + 1, 3, none⟩, .int .i64 0), (⟨w.heap.size + 1, 4, none⟩, .int .i64 0), (⟨w.heap.size + 1, 5, none⟩, .int .i64 0), (⟨w.heap.size + 1, 6, none⟩, .slice none 0 0), (⟨w.heap.size, 0, none⟩, .int .i64 id), (⟨w.heap.size, 1, none⟩, .slice (some ⟨gg, 0, none⟩) n cap)] := Kept.set (p := [(⟨rb, 0, none⟩, .int .i64 ri), (⟨rb, 1, none⟩, .int .i64 rg), (⟨rb, 2, none⟩, .int .i64 ry), (⟨rb, 3, none⟩, .int .i64 rx), (⟨rb, 4, none⟩, .bool false), (⟨nbs1, 0, none⟩, .int .i64 id), (⟨nbs1, 1, none⟩, .int .i64 ((n : Int))), (⟨nbs1, 2, none⟩, .int .i64 u)]) K5 (.int .i64 rx) (by simp only; omega) (by simp only [List.cons_append, List.nil_append, List.mem_cons, List.not_mem_nil, or_false]; rintro c9 (rfl | rfl | rfl | rfl | rfl | rfl | rfl | rfl | rfl | rfl | rfl | rfl | rfl | rfl | rfl | rfl | rfl | rfl | rfl | rfl) <;> (intro e9; simp only [Addr.mk.injEq] at e9; omega))
              have x1 := K5.get 8 rfl
              have y1 := K5.fz 8 rfl
              go_upto_region 13 with fail
              obtain ⟨ws1, hx9⟩ : ∃ xq, xq = ws0.setCell ⟨nbs1, 3, none⟩ (.int .i64 rx) := ⟨_, rfl⟩
              have HS1 := Lib.hid (HS5.out.set ⟨nbs1, 3, none⟩ (.int .i64 rx) HNE.out)
              rw [← hx9] at KS1 HS1 ⊢
              clear hx9 x1 y1
              clear q0 z3
              have z3 := KS1.get 3 rfl
              have q1 := KS1.get 9 rfl
              have KS2 : Kept w (ws1.setCell ⟨nbs1, 4, none⟩ (.int .i64 rx)) [(⟨rb, 0, none⟩, .int .i64 ri), (⟨rb, 1, none⟩, .int .i64 rg), (⟨rb, 2, none⟩, .int .i64 ry), (⟨rb, 3, none⟩, .int .i64 rx), (⟨rb, 4, none⟩, .bool false), (⟨nbs1, 0, none⟩, .int .i64 id), (⟨nbs1, 1, none⟩, .int .i64 ((n : Int))), (⟨nbs1, 2, none⟩, .int .i64 u), (⟨nbs1, 3, none⟩, .int .i64 rx), (⟨nbs1, 4, none⟩, .int .i64 rx), (⟨nbs1, 5, none⟩, .int .i64 0), (⟨nbs1, 6, none⟩, .slice aoh HH.length ch), (⟨w.heap.size + 1, 0, none⟩, .int .i64 0), (⟨w.heap.size + 1, 1, none⟩, .int .i64 0), (⟨w.heap.size + 1, 2, none⟩, .int .i64 0), (⟨w.heap.size + 1, 3, none⟩, .int .i64 0), (⟨w.heap.size + 1, 4, none⟩, .int .i64 0), (⟨w.heap.size + 1, 5, none⟩, .int .i64 0), (⟨w.heap.size + 1, 6, none⟩, .slice none 0 0), (⟨w.heap.size, 0, none⟩, .int .i64 id), (⟨w.heap.size, 1, none⟩, .slice (some ⟨gg, 0, none⟩) n cap)] := Kept.set (p := [(⟨rb, 0, none⟩, .int .i64 ri), (⟨rb, 1, none⟩, .int .i64 rg), (⟨rb, 2, none⟩, .int .i64 ry), (⟨rb, 3, none⟩, .int .i64 rx), (⟨rb, 4, none⟩, .bool false), (⟨nbs1, 0, none⟩, .int .i64 id), (⟨nbs1, 1, none⟩, .int .i64 ((n : Int))), (⟨nbs1, 2, none⟩, .int .i64 u), (⟨nbs1, 3, none⟩, .int .i64 rx)]) KS1 (.int .i64 rx) (by simp only; omega) (by simp only [List.cons_append, List.nil_append, List.mem_cons, List.not_mem_nil, or_false]; rintro c9 (rfl | rfl | rfl | rfl | rfl | rfl | rfl | rfl | rfl | rfl | rfl | rfl | rfl | rfl | rfl | rfl | rfl | rfl | rfl | rfl) <;> (intro e9; simp only [Addr.mk.injEq] at e9; omega))
              have x2 := KS1.get 9 rfl
              have y2 := KS1.fz 9 rfl
              go_upto_region 14 with fail
              obtain ⟨ws2, hx9⟩ : ∃ xq, xq = ws1.setCell ⟨nbs1, 4, none⟩ (.int .i64 rx) := ⟨_, rfl⟩
              have HS2 := Lib.hid (HS1.out.set ⟨nbs1, 4, none⟩ (.int .i64 rx) HNE.out)
              rw [← hx9] at KS2 HS2 ⊢
              clear hx9 x2 y2
              clear q1 z3
              have z3 := KS2.get 3 rfl
              have q2 := KS2.get 8 rfl
              have KS3 : Kept w (ws2.setCell ⟨nbs1, 3, none⟩ (.int .i64 rx)) [(⟨rb, 0, none⟩, .int .i64 ri), (⟨rb, 1, none⟩, .int .i64 rg), (⟨rb, 2, none⟩, .int .i64 ry), (⟨rb, 3, none⟩, .int .i64 rx), (⟨rb, 4, none⟩, .bool false), (⟨nbs1, 0, none⟩, .int .i64 id), (⟨nbs1, 1, none⟩, .int .i64 ((n : Int))), (⟨nbs1, 2, none⟩, .int .i64 u), (⟨nbs1, 3, none⟩, .int .i64 rx), (⟨nbs1, 4, none⟩, .int .i64 rx), (⟨nbs1, 5, none⟩, .int .i64 0), (⟨nbs1, 6, none⟩, .slice aoh HH.length ch), (⟨w.heap.size + 1, 0, none⟩, .int .i64 0), (⟨w.heap.size + 1, 1, none⟩, .int .i64 0), (⟨w.heap.size + 1, 2, none⟩, .int .i64 0), (⟨w.heap.size + 1, 3, none⟩, .int .i64 0), (⟨w.heap.size + 1, 4, none⟩, .int .i64 0), (⟨w.heap.size + 1, 5, none⟩, .int .i64 0), (⟨w.heap.size + 1, 6, none⟩, .slice none 0 0), (⟨w.heap.size, 0, none⟩, .int .i64 id), (⟨w.heap.size, 1, none⟩, .slice (some ⟨gg, 0, none⟩) n cap)] := Kept.set (p := [(⟨rb, 0, none⟩, .int .i64 ri), (⟨rb, 1, none⟩, .int .i64 rg), (⟨rb, 2, none⟩, .int .i64 ry), (⟨rb, 3, none⟩, .int .i64 rx), (⟨rb, 4, none⟩, .bool false), (⟨nbs1, 0, none⟩, .int .i64 id), (⟨nbs1, 1, none⟩, .int .i64 ((n : Int))), (⟨nbs1, 2, none⟩, .int .i64 u)]) KS2 (.int .i64 rx) (by simp only; omega) (by simp only [List.cons_append, List.nil_append, List.mem_cons, List.not_mem_nil, or_false]; rintro c9 (rfl | rfl | rfl | rfl | rfl | rfl | rfl | rfl | rfl | rfl | rfl | rfl | rfl | rfl | rfl | rfl | rfl | rfl | rfl | rfl) <;> (intro e9; simp only [Addr.mk.injEq] at e9; omega))
              have x3 := KS2.get 8 rfl
              have y3 := KS2.fz 8 rfl
              go_upto_region 16 with fail
              obtain ⟨ws3, hx9⟩ : ∃ xq, xq = ws2.setCell ⟨nbs1, 3, none⟩ (.int .i64 rx) := ⟨_, rfl⟩
              have HS3 := Lib.hid (HS2.out.set ⟨nbs1, 3, none⟩ (.int .i64 rx) HNE.out)
              rw [← hx9] at KS3 HS3 ⊢
              clear hx9 x3 y3
              clear q2 z3
              have z3 := KS3.get 3 rfl
              have q3 := KS3.get 9 rfl
              have KS4 : Kept w (ws3.setCell ⟨nbs1, 4, none⟩ (.int .i64 rx)) [(⟨rb, 0, none⟩, .int .i64 ri), (⟨rb, 1, none⟩, .int .i64 rg), (⟨rb, 2, none⟩, .int .i64 ry), (⟨rb, 3, none⟩, .int .i64 rx), (⟨rb, 4, none⟩, .bool false), (⟨nbs1, 0, none⟩, .int .i64 id), (⟨nbs1, 1, none⟩, .int .i64 ((n : Int))), (⟨nbs1, 2, none⟩, .int .i64 u), (⟨nbs1, 3, none⟩, .int .i64 rx), (⟨nbs1, 4, none⟩, .int .i64 rx), (⟨nbs1, 5, none⟩, .int .i64 0), (⟨nbs1, 6, none⟩, .slice aoh HH.length ch), (⟨w.heap.size + 1, 0, none⟩, .int .i64 0), (⟨w.heap.size + 1, 1, none⟩, .int .i64 0), (⟨w.heap.size + 1, 2, none⟩, .int .i64 0), (⟨w.heap.size + 1, 3, none⟩, .int .i64 0), (⟨w.heap.size + 1, 4, none⟩, .int .i64 0), (⟨w.heap.size + 1, 5, none⟩, .int .i64 0), (⟨w.heap.size + 1, 6, none⟩, .slice none 0 0), (⟨w.heap.size, 0, none⟩, .int .i64 id), (⟨w.heap.size, 1, none⟩, .slice (some ⟨gg, 0, none⟩) n cap)] := Kept.set (p := [(⟨rb, 0, none⟩, .int .i64 ri), (⟨rb, 1, none⟩, .int .i64 rg), (⟨rb, 2, none⟩, .int .i64 ry), (⟨rb, 3, none⟩, .int .i64 rx), (⟨rb, 4, none⟩, .bool false), (⟨nbs1, 0, none⟩, .int .i64 id), (⟨nbs1, 1, none⟩, .int .i64 ((n : Int))), (⟨nbs1, 2, none⟩, .int .i64 u), (⟨nbs1, 3, none⟩, .int .i64 rx)]) KS3 (.int .i64 rx) (by simp only; omega) (by simp only [List.cons_append, List.nil_append, List.mem_cons, List.not_mem_nil, or_false]; rintro c9 (rfl | rfl | rfl | rfl | rfl | rfl | rfl | rfl | rfl | rfl | rfl | rfl | rfl | rfl | rfl | rfl | rfl | rfl | rfl | rfl) <;> (intro e9; simp only [Addr.mk.injEq] at e9; omega))
              have x4 := KS3.get 9 rfl
              have y4 := KS3.fz 9 rfl
              go_upto_region 17 with fail
              obtain ⟨ws4, hx9⟩ : ∃ xq, xq = ws3.setCell ⟨nbs1, 4, none⟩ (.int .i64 rx) := ⟨_, rfl⟩
              have HS4 := Lib.hid (HS3.out.set ⟨nbs1, 4, none⟩ (.int .i64 rx) HNE.out)
              rw [← hx9] at KS4 HS4 ⊢
              clear hx9 x4 y4
              clear q3 z3
              have z3 := KS4.get 3 rfl
              have q4 := KS4.get 10 rfl
              have KS5 : Kept w (ws4.setCell ⟨nbs1, 5, none⟩ (.int .i64 rx)) [(⟨rb, 0, none⟩, .int .i64 ri), (⟨rb, 1, none⟩, .int .i64 rg), (⟨rb, 2, none⟩, .int .i64 ry), (⟨rb, 3, none⟩, .int .i64 rx), (⟨rb, 4, none⟩, .bool false), (⟨nbs1, 0, none⟩, .int .i64 id), (⟨nbs1, 1, none⟩, .int .i64 ((n : Int))), (⟨nbs1, 2, none⟩, .int .i64 u), (⟨nbs1, 3, none⟩, .int .i64 rx), (⟨nbs1, 4, none⟩, .int .i64 rx), (⟨nbs1, 5, none⟩, .int .i64 rx), (⟨nbs1, 6, none⟩, .slice aoh HH.length ch), (⟨w.heap.size + 1, 0, none⟩, .int .i64 0), (⟨w.heap.size + 1, 1, none⟩, .int .i64 0), (⟨w.heap.size + 1, 2, none⟩, .int .i64 0), (⟨w.heap.size + 1, 3, none⟩, .int .i64 0), (⟨w.heap.size + 1, 4, none⟩, .int .i64 0), (⟨w.heap.size + 1, 5, none⟩, .int .i64 0), (⟨w.heap.size + 1, 6, none⟩, .slice none 0 0), (⟨w.heap.size, 0, none⟩, .int .i64 id), (⟨w.heap.size, 1, none⟩, .slice (some ⟨gg, 0, none⟩) n cap)] := Kept.set (p := [(⟨rb, 0, none⟩, .int .i64 ri), (⟨rb, 1, none⟩, .int .i64 rg), (⟨rb, 2, none⟩, .int .i64 ry), (⟨rb, 3, none⟩, .int .i64 rx), (⟨rb, 4, none⟩, .bool false), (⟨nbs1, 0, none⟩, .int .i64 id), (⟨nbs1, 1, none⟩, .int .i64 ((n : Int))), (⟨nbs1, 2, none⟩, .int .i64 u), (⟨nbs1, 3, none⟩, .int .i64 rx), (⟨nbs1, 4, none⟩, .int .i64 rx)]) KS4 (.int .i64 rx) (by simp only; omega) (by simp only [List.cons_append, List.nil_append, List.mem_cons, List.not_mem_nil, or_false]; rintro c9 (rfl | rfl | rfl | rfl | rfl | rfl | rfl | rfl | rfl | rfl | rfl | rfl | rfl | rfl | rfl | rfl | rfl | rfl | rfl | rfl) <;> (intro e9; simp only [Addr.mk.injEq] at e9; omega))
              have x5 := KS4.get 10 rfl
              have y5 := KS4.fz 10 rfl
              go_upto_region 7 with fail
              obtain ⟨ws5, hx9⟩ : ∃ xq, xq = ws4.setCell ⟨nbs1, 5, none⟩ (.int .i64 rx) := ⟨_, rfl⟩
              have HS5 := Lib.hid (HS4.out.set ⟨nbs1, 5, none⟩ (.int .i64 rx) HNE.out)
              rw [← hx9] at KS5 HS5 ⊢
              clear hx9 x5 y5
              clear q4 z3
              have z3 := KS5.get 3 rfl
              have HKE := Lib.hid (show Kept w ws5 [(⟨nbs1, 0, none⟩, .int .i64 id), (⟨nbs1, 1, none⟩, .int .i64 ((n : Int))), (⟨nbs1, 2, none⟩, .int .i64 (((k + 1 : Nat) : Int) - (spL (l.take (k + 1))).c)), (⟨nbs1, 3, none⟩, .int .i64 ((spL (l.take (k + 1))).mn)), (⟨nbs1, 4, none⟩, .int .i64 ((spL (l.take (k + 1))).mx)), (⟨nbs1, 5, none⟩, .int .i64 ((spL (l.take (k + 1))).s)), (⟨nbs1, 6, none⟩, .slice aoh HH.length ch), (⟨w.heap.size + 1, 0, none⟩, .int .i64 0), (⟨w.heap.size + 1, 1, none⟩, .int .i64 0), (⟨w.heap.size + 1, 2, none⟩, .int .i64 0), (⟨w.heap.size + 1, 3, none⟩, .int .i64 0), (⟨w.heap.size + 1, 4, none⟩, .int .i64 0), (⟨w.heap.size + 1, 5, none⟩, .int .i64 0), (⟨w.heap.size + 1, 6, none⟩, .slice none 0 0), (⟨w.heap.size, 0, none⟩, .int .i64 id), (⟨w.heap.size, 1, none⟩, .slice (some ⟨gg, 0, none⟩) n cap)] by
                rw [NXX.out]
                simp only
                rw [show ((k + 1 : Nat) : Int) - 1 = u by have := HU.out; have := HC0.out; omega]
                exact KS5.sub (by intro p9 hp9; simp only [List.mem_cons, List.not_mem_nil, or_false] at hp9; rcases hp9 with rfl | rfl | rfl | rfl | rfl | rfl | rfl | rfl | rfl | rfl | rfl | rfl | rfl | rfl | rfl | rfl <;> simp))
              have HFV := Lib.hid (show Value.bool false = .bool (decide ((spL (l.take (k + 1))).c = 0)) from ret_b (by rw [NXX.out]; rfl))
              clear z3 z4
              try clear KS5
              go_wp2
              go_roundw
              case rel => exact ⟨k + 1, by omega, by go_num, HFV.out, HKE.out, HS5.out⟩
              case measure => simp [intOf]; omega
            · skip
              have NXX := Lib.hid (show spL (l.take (k + 1)) = ⟨c + 1, min m rx, max x rx, s + rx⟩ from NX.out.trans (sp_more rfl hc0))
              have hd0 : decide (c = 0) = false := decide_eq_false hc0
              rw [hd0]
              have hw9 : IntKind.i64.wrap (s + rx) = s + rx := by rw [IntKind.wrap_i64]; omega
              have HC0 := Lib.hid hc0
              clear hc0
              have q0 := K5.get 8 rfl
              have KS1 : Kept w (ws0.setCell ⟨nbs1, 3, none⟩ (.int .i64 (min m rx))) [(⟨rb, 0, none⟩, .int .i64 ri), (⟨rb, 1, none⟩, .int .i64 rg), (⟨rb, 2, none⟩, .int .i64 ry), (⟨rb, 3, none⟩, .int .i64 rx), (⟨rb, 4, none⟩, .bool false), (⟨nbs1, 0, none⟩, .int .i64 id), (⟨nbs1, 1, none⟩, .int .i64 ((n : Int))), (⟨nbs1, 2, none⟩, .int .i64 u), (⟨nbs1, 3, none⟩, .int .i64 (min m rx)), (⟨nbs1, 4, none⟩, .int .i64 x), (⟨nbs1, 5, none⟩, .int .i64 s), (⟨nbs1, 6, none⟩, .slice aoh HH.length ch), (⟨w.heap.size + 1, 0, none⟩, .int .i64 0), (⟨w.heap.size + 1, 1, none⟩, .int .i64 0), (⟨w.heap.size + 1, 2, none⟩, .int .i64 0), (⟨w.heap.size + 1, 3, none⟩, .int .i64 0), (⟨w.heap.size + 1, 4, none⟩, .int .i64 0), (⟨w.heap.size + 1, 5, none⟩, .int .i64 0), (⟨w.heap.size + 1, 6, none⟩, .slice none 0 0), (⟨w.heap.size, 0, none⟩, .int .i64 id), (⟨w.heap.size, 1, none⟩, .slice (some ⟨gg, 0, none⟩) n cap)] := Kept.set (p := [(⟨rb, 0, none⟩, .int .i64 ri), (⟨rb, 1, none⟩, .int .i64 rg), (⟨rb, 2, none⟩, .int .i64 ry), (⟨rb, 3, none⟩, .int .i64 rx), (⟨rb, 4, none⟩, .bool false), (⟨nbs1, 0, none⟩, .int .i64 id), (⟨nbs1, 1, none⟩, .int .i64 ((n : Int))), (⟨nbs1, 2, none⟩, .int .i64 u)]) K5 (.int .i64 (min m rx)) (by simp only; omega) (by simp only [List.cons_append, List.nil_append, List.mem_cons, List.not_mem_nil, or_false]; rintro c9 (rfl | rfl | rfl | rfl | rfl | rfl | rfl | rfl | rfl | rfl | rfl | rfl | rfl | rfl | rfl | rfl | rfl | rfl | rfl | rfl) <;> (intro e9; simp only [Addr.mk.injEq] at e9; omega))
              have x1 := K5.get 8 rfl
              have y1 := K5.fz 8 rfl
              go_upto_region 16 with fail
              obtain ⟨ws1, hx9⟩ : ∃ xq, xq = ws0.setCell ⟨nbs1, 3, none⟩ (.int .i64 (min m rx)) := ⟨_, rfl⟩
              have HS1 := Lib.hid (HS5.out.set ⟨nbs1, 3, none⟩ (.int .i64 (min m rx)) HNE.out)
              rw [← hx9] at KS1 HS1 ⊢
              clear hx9 x1 y1
              clear q0 z3
              have z3 := KS1.get 3 rfl
              have q1 := KS1.get 9 rfl
              have KS2 : Kept w (ws1.setCell ⟨nbs1, 4, none⟩ (.int .i64 (max x rx))) [(⟨rb, 0, none⟩, .int .i64 ri), (⟨rb, 1, none⟩, .int .i64 rg), (⟨rb, 2, none⟩, .int .i64 ry), (⟨rb, 3, none⟩, .int .i64 rx), (⟨rb, 4, none⟩, .bool false), (⟨nbs1, 0, none⟩, .int .i64 id), (⟨nbs1, 1, none⟩, .int .i64 ((n : Int))), (⟨nbs1, 2, none⟩, .int .i64 u), (⟨nbs1, 3, none⟩, .int .i64 (min m rx)), (⟨nbs1, 4, none⟩, .int .i64 (max x rx)), (⟨nbs1, 5, none⟩, .int .i64 s), (⟨nbs1, 6, none⟩, .slice aoh HH.length ch), (⟨w.heap.size + 1, 0, none⟩, .int .i64 0), (⟨w.heap.size + 1, 1, none⟩, .int .i64 0), (⟨w.heap.size + 1, 2, none⟩, .int .i64 0), (⟨w.heap.size + 1, 3, none⟩, .int .i64 0), (⟨w.heap.size + 1, 4, none⟩, .int .i64 0), (⟨w.heap.size + 1, 5, none⟩, .int .i64 0), (⟨w.heap.size + 1, 6, none⟩, .slice none 0 0), (⟨w.heap.size, 0, none⟩, .int .i64 id), (⟨w.heap.size, 1, none⟩, .slice (some ⟨gg, 0, none⟩) n cap)] := Kept.set (p := [(⟨rb, 0, none⟩, .int .i64 ri), (⟨rb, 1, none⟩, .int .i64 rg), (⟨rb, 2, none⟩, .int .i64 ry), (⟨rb, 3, none⟩, .int .i64 rx), (⟨rb, 4, none⟩, .bool false), (⟨nbs1, 0, none⟩, .int .i64 id), (⟨nbs1, 1, none⟩, .int .i64 ((n : Int))), (⟨nbs1, 2, none⟩, .int .i64 u), (⟨nbs1, 3, none⟩, .int .i64 (min m rx))]) KS1 (.int .i64 (max x rx)) (by simp only; omega) (by simp only [List.cons_append, List.nil_append, List.mem_cons, List.not_mem_nil, or_false]; rintro c9 (rfl | rfl | rfl | rfl | rfl | rfl | rfl | rfl | rfl | rfl | rfl | rfl | rfl | rfl | rfl | rfl | rfl | rfl | rfl | rfl) <;> (intro e9; simp only [Addr.mk.injEq] at e9; omega))
              have x2 := KS1.get 9 rfl
              have y2 := KS1.fz 9 rfl
              go_upto_region 17 with fail
              obtain ⟨ws2, hx9⟩ : ∃ xq, xq = ws1.setCell ⟨nbs1, 4, none⟩ (.int .i64 (max x rx)) := ⟨_, rfl⟩
              have HS2 := Lib.hid (HS1.out.set ⟨nbs1, 4, none⟩ (.int .i64 (max x rx)) HNE.out)
              rw [← hx9] at KS2 HS2 ⊢
              clear hx9 x2 y2
              clear q1 z3
              have z3 := KS2.get 3 rfl
              have q2 := KS2.get 10 rfl
              have KS3 : Kept w (ws2.setCell ⟨nbs1, 5, none⟩ (.int .i64 (s + rx))) [(⟨rb, 0, none⟩, .int .i64 ri), (⟨rb, 1, none⟩, .int .i64 rg), (⟨rb, 2, none⟩, .int .i64 ry), (⟨rb, 3, none⟩, .int .i64 rx), (⟨rb, 4, none⟩, .bool false), (⟨nbs1, 0, none⟩, .int .i64 id), (⟨nbs1, 1, none⟩, .int .i64 ((n : Int))), (⟨nbs1, 2, none⟩, .int .i64 u), (⟨nbs1, 3, none⟩, .int .i64 (min m rx)), (⟨nbs1, 4, none⟩, .int .i64 (max x rx)), (⟨nbs1, 5, none⟩, .int .i64 (s + rx)), (⟨nbs1, 6, none⟩, .slice aoh HH.length ch), (⟨w.heap.size + 1, 0, none⟩, .int .i64 0), (⟨w.heap.size + 1, 1, none⟩, .int .i64 0), (⟨w.heap.size + 1, 2, none⟩, .int .i64 0), (⟨w.heap.size + 1, 3, none⟩, .int .i64 0), (⟨w.heap.size + 1, 4, none⟩, .int .i64 0), (⟨w.heap.size + 1, 5, none⟩, .int .i64 0), (⟨w.heap.size + 1, 6, none⟩, .slice none 0 0), (⟨w.heap.size, 0, none⟩, .int .i64 id), (⟨w.heap.size, 1, none⟩, .slice (some ⟨gg, 0, none⟩) n cap)] := Kept.set (p := [(⟨rb, 0, none⟩, .int .i64 ri), (⟨rb, 1, none⟩, .int .i64 rg), (⟨rb, 2, none⟩, .int .i64 ry), (⟨rb, 3, none⟩, .int .i64 rx), (⟨rb, 4, none⟩, .bool false), (⟨nbs1, 0, none⟩, .int .i64 id), (⟨nbs1, 1, none⟩, .int .i64 ((n : Int))), (⟨nbs1, 2, none⟩, .int .i64 u), (⟨nbs1, 3, none⟩, .int .i64 (min m rx)), (⟨nbs1, 4, none⟩, .int .i64 (max x rx))]) KS2 (.int .i64 (s + rx)) (by simp only; omega) (by simp only [List.cons_append, List.nil_append, List.mem_cons, List.not_mem_nil, or_false]; rintro c9 (rfl | rfl | rfl | rfl | rfl | rfl | rfl | rfl | rfl | rfl | rfl | rfl | rfl | rfl | rfl | rfl | rfl | rfl | rfl | rfl) <;> (intro e9; simp only [Addr.mk.injEq] at e9; omega))
              have x3 := KS2.get 10 rfl
              have y3 := KS2.fz 10 rfl
              go_upto_region 7 with fail
              obtain ⟨ws3, hx9⟩ : ∃ xq, xq = ws2.setCell ⟨nbs1, 5, none⟩ (.int .i64 (s + rx)) := ⟨_, rfl⟩
              have HS3 := Lib.hid (HS2.out.set ⟨nbs1, 5, none⟩ (.int .i64 (s + rx)) HNE.out)
              rw [← hx9] at KS3 HS3 ⊢
              clear hx9 x3 y3
              clear q2 z3
              have z3 := KS3.get 3 rfl
              have HKE := Lib.hid (show Kept w ws3 [(⟨nbs1, 0, none⟩, .int .i64 id), (⟨nbs1, 1, none⟩, .int .i64 ((n : Int))), (⟨nbs1, 2, none⟩, .int .i64 (((k + 1 : Nat) : Int) - (spL (l.take (k + 1))).c)), (⟨nbs1, 3, none⟩, .int .i64 ((spL (l.take (k + 1))).mn)), (⟨nbs1, 4, none⟩, .int .i64 ((spL (l.take (k + 1))).mx)), (⟨nbs1, 5, none⟩, .int .i64 ((spL (l.take (k + 1))).s)), (⟨nbs1, 6, none⟩, .slice aoh HH.length ch), (⟨w.heap.size + 1, 0, none⟩, .int .i64 0), (⟨w.heap.size + 1, 1, none⟩, .int .i64 0), (⟨w.heap.size + 1, 2, none⟩, .int .i64 0), (⟨w.heap.size + 1, 3, none⟩, .int .i64 0), (⟨w.heap.size + 1, 4, none⟩, .int .i64 0), (⟨w.heap.size + 1, 5, none⟩, .int .i64 0), (⟨w.heap.size + 1, 6, none⟩, .slice none 0 0), (⟨w.heap.size, 0, none⟩, .int .i64 id), (⟨w.heap.size, 1, none⟩, .slice (some ⟨gg, 0, none⟩) n cap)] by
                rw [NXX.out]
                simp only
                rw [show ((k + 1 : Nat) : Int) - (c + 1) = u by have := HU.out; omega]
                exact KS3.sub (by intro p9 hp9; simp only [List.mem_cons, List.not_mem_nil, or_false] at hp9; rcases hp9 with rfl | rfl | rfl | rfl | rfl | rfl | rfl | rfl | rfl | rfl | rfl | rfl | rfl | rfl | rfl | rfl <;> simp))
              have HFV := Lib.hid (show Value.bool false = .bool (decide ((spL (l.take (k + 1))).c = 0)) from ret_b (by rw [NXX.out]; exact decide_eq_false (by simp only; omega)))
              clear z3 z4
              try clear KS3
              go_wp2
              go_roundw
              case rel => exact ⟨k + 1, by omega, by go_num, HFV.out, HKE.out, HS3.out⟩
              case measure => simp [intOf]; omega
          · skip
            have hc9 := BD'.out
            have NXX := Lib.hid (show spL (l.take (k + 1)) = ⟨c, m, x, s⟩ from NX.out.trans (sp_null rfl))
            have hw9 : IntKind.i64.wrap (u + 1) = u + 1 := by rw [IntKind.wrap_i64]; omega
            clear hc9
            have q0 := K5.get 7 rfl
            have KS1 : Kept w (ws0.setCell ⟨nbs1, 2, none⟩ (.int .i64 (u + 1))) [(⟨rb, 0, none⟩, .int .i64 ri), (⟨rb, 1, none⟩, .int .i64 rg), (⟨rb, 2, none⟩, .int .i64 ry), (⟨rb, 3, none⟩, .int .i64 rx), (⟨rb, 4, none⟩, .bool true), (⟨nbs1, 0, none⟩, .int .i64 id), (⟨nbs1, 1, none⟩, .int .i64 ((n : Int))), (⟨nbs1, 2, none⟩, .int .i64 (u + 1)), (⟨nbs1, 3, none⟩, .int .i64 m), (⟨nbs1, 4, none⟩, .int .i64 x), (⟨nbs1, 5, none⟩, .int .i64 s), (⟨nbs1, 6, none⟩, .slice aoh HH.length ch), (⟨w.heap.size + 1, 0, none⟩, .int .i64 0), (⟨w.heap.size + 1, 1, none⟩, .int .i64 0), (⟨w.heap.size + 1, 2, none⟩, .int .i64 0), (⟨w.heap.size + 1, 3, none⟩, .int .i64 0), (⟨w.heap.size + 1, 4, none⟩, .int .i64 0), (⟨w.heap.size + 1, 5, none⟩, .int .i64 0), (⟨w.heap.size + 1, 6, none⟩, .slice none 0 0), (⟨w.heap.size, 0, none⟩, .int .i64 id), (⟨w.heap.size, 1, none⟩, .slice (some ⟨gg, 0, none⟩) n cap)] := Kept.set (p := [(⟨rb, 0, none⟩, .int .i64 ri), (⟨rb, 1, none⟩, .int .i64 rg), (⟨rb, 2, none⟩, .int .i64 ry), (⟨rb, 3, none⟩, .int .i64 rx), (⟨rb, 4, none⟩, .bool true), (⟨nbs1, 0, none⟩, .int .i64 id), (⟨nbs1, 1, none⟩, .int .i64 ((n : Int)))]) K5 (.int .i64 (u + 1)) (by simp only; omega) (by simp only [List.cons_append, List.nil_append, List.mem_cons, List.not_mem_nil, or_false]; rintro c9 (rfl | rfl | rfl | rfl | rfl | rfl | rfl | rfl | rfl | rfl | rfl | rfl | rfl | rfl | rfl | rfl | rfl | rfl | rfl | rfl) <;> (intro e9; simp only [Addr.mk.injEq] at e9; omega))
            have x1 := K5.get 7 rfl
            have y1 := K5.fz 7 rfl
            go_upto_region 7 with fail
            obtain ⟨ws1, hx9⟩ : ∃ xq, xq = ws0.setCell ⟨nbs1, 2, none⟩ (.int .i64 (u + 1)) := ⟨_, rfl⟩
            have HS1 := Lib.hid (HS5.out.set ⟨nbs1, 2, none⟩ (.int .i64 (u + 1)) HNE.out)
            rw [← hx9] at KS1 HS1 ⊢
            clear hx9 x1 y1
            clear q0
            have HKE := Lib.hid (show Kept w ws1 [(⟨nbs1, 0, none⟩, .int .i64 id), (⟨nbs1, 1, none⟩, .int .i64 ((n : Int))), (⟨nbs1, 2, none⟩, .int .i64 (((k + 1 : Nat) : Int) - (spL (l.take (k + 1))).c)), (⟨nbs1, 3, none⟩, .int .i64 ((spL (l.take (k + 1))).mn)), (⟨nbs1, 4, none⟩, .int .i64 ((spL (l.take (k + 1))).mx)), (⟨nbs1, 5, none⟩, .int .i64 ((spL (l.take (k + 1))).s)), (⟨nbs1, 6, none⟩, .slice aoh HH.length ch), (⟨w.heap.size + 1, 0, none⟩, .int .i64 0), (⟨w.heap.size + 1, 1, none⟩, .int .i64 0), (⟨w.heap.size + 1, 2, none⟩, .int .i64 0), (⟨w.heap.size + 1, 3, none⟩, .int .i64 0), (⟨w.heap.size + 1, 4, none⟩, .int .i64 0), (⟨w.heap.size + 1, 5, none⟩, .int .i64 0), (⟨w.heap.size + 1, 6, none⟩, .slice none 0 0), (⟨w.heap.size, 0, none⟩, .int .i64 id), (⟨w.heap.size, 1, none⟩, .slice (some ⟨gg, 0, none⟩) n cap)] by
              rw [NXX.out]
              simp only
              rw [show ((k + 1 : Nat) : Int) - c = u + 1 by have := HU.out; omega]
              exact KS1.sub (by intro p9 hp9; simp only [List.mem_cons, List.not_mem_nil, or_false] at hp9; rcases hp9 with rfl | rfl | rfl | rfl | rfl | rfl | rfl | rfl | rfl | rfl | rfl | rfl | rfl | rfl | rfl | rfl <;> simp))
            have HFV := Lib.hid (show Value.bool (decide (c = 0)) = .bool (decide ((spL (l.take (k + 1))).c = 0)) from ret_b (by rw [NXX.out]))
            clear z3 z4
            try clear KS1
            go_wp2
            go_roundw
            case rel => exact ⟨k + 1, by omega, by go_num, HFV.out, HKE.out, HS1.out⟩
            case measure => simp [intOf]; omega
        · obtain rfl : k = n := by omega
          have hsd : decide ((k : Int) < (k : Int)) = false := decide_eq_false (by omega)
          have AN2 := Lib.hid (show sumB id l = ⟨id, k, u, m, x, s, HH⟩ by rw [AN.out, HU.out, show spL l = ⟨c, m, x, s⟩ from by rw [HAC.out, show l.take k = l from by rw [← HL.out, List.take_length]]])
          have hNN := HKK.lt 0 rfl
          have K7 := (HKK.sub (l' := [(⟨w.heap.size + 1, 0, none⟩, .int .i64 0), (⟨w.heap.size + 1, 1, none⟩, .int .i64 0), (⟨w.heap.size + 1, 2, none⟩, .int .i64 0), (⟨w.heap.size + 1, 3, none⟩, .int .i64 0), (⟨w.heap.size + 1, 4, none⟩, .int .i64 0), (⟨w.heap.size + 1, 5, none⟩, .int .i64 0), (⟨w.heap.size + 1, 6, none⟩, .slice none 0 0), (⟨nbs1, 0, none⟩, .int .i64 id), (⟨nbs1, 1, none⟩, .int .i64 ((k : Int))), (⟨nbs1, 2, none⟩, .int .i64 u), (⟨nbs1, 3, none⟩, .int .i64 m), (⟨nbs1, 4, none⟩, .int .i64 x), (⟨nbs1, 5, none⟩, .int .i64 s), (⟨nbs1, 6, none⟩, .slice aoh HH.length ch)]) (by intro p9 hp9; simp only [List.mem_cons, List.not_mem_nil, or_false] at hp9; rcases hp9 with rfl | rfl | rfl | rfl | rfl | rfl | rfl | rfl | rfl | rfl | rfl | rfl | rfl | rfl <;> simp)).setB7 (.int .i64 id) (.int .i64 ((k : Int))) (.int .i64 u) (.int .i64 m) (.int .i64 x) (.int .i64 s) (.slice aoh HH.length ch) (by omega) (by simp only [List.mem_cons, List.not_mem_nil, or_false]; rintro c9 (rfl | rfl | rfl | rfl | rfl | rfl | rfl) <;> (dsimp only; omega))
          have HK7 := Lib.hid K7.1
          have HS9 := Lib.hid (HS0.out.setB7 (w.heap.size + 1) (.int .i64 id) (.int .i64 ((k : Int))) (.int .i64 u) (.int .i64 m) (.int .i64 x) (.int .i64 s) (.slice aoh HH.length ch) (fun j hj => by have := HFW.out j hj; omega))
          have HF9 := Lib.hid (show ∀ j ∈ fph, w.heap.size ≤ j from fun j hj => by have := HFW.out j hj; omega)
          have k0 := HKK.get 7 rfl
          have f0 := HKK.fz 7 rfl
          have e0 := HKK.get 0 rfl
          have k1 := HKK.get 8 rfl
          have f1 := HKK.fz 8 rfl
          have e1 := HKK.get 1 rfl
          have k2 := HKK.get 9 rfl
          have f2 := HKK.fz 9 rfl
          have e2 := HKK.get 2 rfl
          have k3 := HKK.get 10 rfl
          have f3 := HKK.fz 10 rfl
          have e3 := HKK.get 3 rfl
          have k4 := HKK.get 11 rfl
          have f4 := HKK.fz 11 rfl
          have e4 := HKK.get 4 rfl
          have k5 := HKK.get 12 rfl
          have f5 := HKK.fz 12 rfl
          have e5 := HKK.get 5 rfl
          have k6 := HKK.get 13 rfl
          have f6 := HKK.fz 13 rfl
          have e6 := HKK.get 6 rfl
          have z := HKK.lt 7 rfl
          clear K7 HKK b0 b1 b8 b9 hu0 hu1 hNN
          go_wp2
          exact bodyPost_ret (v := .agg #[.int .i64 id, .int .i64 (k : Int), .int .i64 u, .int .i64 m, .int .i64 x, .int .i64 s, .slice aoh HH.length ch]) (by simp [results, Try.results49, go_sem, k0, k1, k2, k3, k4, k5, k6, z]) rfl ⟨_, fph, by rw [AN2.out], by rw [AN2.out]; exact HS9.out, hndh, HF9.out, HK7.out⟩
end Go.Proofs.Ytcfcohnkkgickaa

namespace Go.Proofs.Ytcfcohnkkgickaa
open Go.RowKit Num

set_option maxRecDepth 8000 in
set_option maxHeartbeats 6400000 in
theorem spec_sof (ver : Int) (ao : Option Addr) (n cap : Nat) (l : List Blk) (w : World) (hl : l.length = n) (hn : n ≤ 1048576) (hr : ∀ k, k < n → (Bn l k).rows.length ≤ 1048576) (hV : BlksVal w ao l) :
    Calls Try.prog 65 #[.agg #[.int .i64 ver, .slice ao n cap]] w (SofOut (sofT ver l) w) := by
  have HV := Lib.hid hV
  have HL := Lib.hid hl
  have HR := Lib.hid hr
  have hln := hl
  clear hV hl hr
  have hnI : (n : Int) ≤ 1048576 := by omega
  go_enter Try.func65, Try.ntmps65
  have K0 := (Kept.start w).alloc2 (.int .i64 ver) (.slice ao n cap) 32 _ rfl
  have KL := Lib.hid (KM.lit (B := w.heap.size) (N := w.heap.size + 1) K0 (by simp) (by omega))
  clear K0
  go_wp2_with fail
  go_loopw [3, 4] (fun vv iv wr => ∃ (k : Nat) (a4 : Option Addr) (c4 : Nat) (f : List Nat), k ≤ n ∧ iv = .int .i64 k ∧ vv = .slice a4 k c4 ∧ (k = 0 ∨ TblOk ver l n) ∧ Hid (KM w wr w.heap.size [(⟨w.heap.size, 0, none⟩, .int .i64 ver), (⟨w.heap.size, 1, none⟩, .slice ao n cap)] (.slice a4 k c4) (sofN l k) f)) (fun _ iv _ => n - (intOf iv).toNat)
  case atStart => exact ⟨0, _, _, [], Nat.zero_le _, rfl, rfl, .inl rfl, KL⟩
  case round =>
    obtain ⟨k, a4, c4, f, hk, rfl, rfl, hok, HK⟩ := hrel
    have b0 := HK.out.1.get 0 rfl
    have b1 := HK.out.1.get 1 rfl
    by_cases hlt : k < n
    · have hkI : (k : Int) < (n : Int) := by omega
      go_wp2_with fail
      refine (spec_tv ver ao n cap l _ HL.out hn HR.out (HV.out.below HK.out.1.1)).mono ?_
      rintro e w1 ⟨v, hv, rfl, hb⟩
      have HK1 := Lib.hid (HK.out.step hb)
      clear hb b0 b1 HK
      have b1 := HK1.out.1.get 1 rfl
      cases v
      · have k0 : k = 0 := hok.resolve_right (fun h => absurd (hv.2 h) (by simp))
        subst k0
        have NO := Lib.hid (sofT_no (ver := ver) (l := l) (fun h => absurd (hv.2 (by rw [← hln]; exact h)) (by simp)))
        clear hv hok
        go_wp2
        go_ret
        exact ⟨_, f, rfl, by rw [NO.out]; exact HK1.out.2.1, HK1.out.1.1⟩
      · have hTO := hv.1 rfl
        clear hv hok
        obtain ⟨g, rfl, hg, hBk⟩ := (HV.out.below HK1.out.1.1).head HL.out (by omega)
        obtain ⟨rao, rcap, c0, c1, hRV⟩ := hBk k hlt
        have hrl := HR.out k hlt
        have HSU := Lib.hid (sofN_succ l k)
        obtain ⟨⟨sb, sn, su, mn, mx, sm, sh⟩, hsm⟩ : ∃ z : Sm, z = sumB (Bn l k).id (Bn l k).rows := ⟨_, rfl⟩
        rw [← hsm] at HSU
        have D2 : Hid (∀ w, RowsVal w rao (Bn l k).rows.length (Rn (Bn l k).rows) → Calls Try.prog 49 #[.agg #[.int .i64 (Bn l k).id, .slice rao (Bn l k).rows.length rcap]] w (SmOut sb sn su mn mx sm sh w)) := fun w hV => by
          have h := spec_sumV (Bn l k).id rao (Bn l k).rows.length rcap (Bn l k).rows w rfl hrl hV
          rw [← hsm] at h
          exact h
        obtain ⟨bk, hbk⟩ : ∃ bk, bk = Bn l k := ⟨_, rfl⟩
        rw [← hbk] at c0 c1 hRV D2
        obtain ⟨m, hm⟩ : ∃ m, m = bk.rows.length := ⟨_, rfl⟩
        rw [← hm] at c1 hRV D2
        have HRV := Lib.hid hRV
        clear hBk hsm hbk hm hRV
        go_wp2_with fail
        refine (D2.out _ HRV.out).mono ?_
        rintro e w2 ⟨v9, fb, rfl, hs, hnd, hf, hb⟩
        obtain ⟨ro, rc, rfl, _, _⟩ := ints_open hs
        have HK2 := Lib.hid (HK1.out.step hb)
        have hOl := HK1.out.2.1.lt
        have hSz := HK1.out.1.1.size
        have HD1 := Lib.hid (show ∀ j ∈ fb, j ∉ f from fun j hj e => by have h1 := hf j hj; have h2 := hOl.2 j e; omega)
        have HD2 := Lib.hid (show ∀ j ∈ fb, (Value.slice a4 k c4).ownBlock ≠ some j from fun j hj e => by have h1 := hf j hj; have h2 := (hOl.1 j e).2; omega)
        have HD3 := Lib.hid (show ∀ j ∈ fb, w.heap.size ≤ j from fun j hj => Nat.le_trans hSz (hf j hj))
        have HLb := Lib.hid (show ∀ p ∈ ([(⟨w.heap.size, 0, none⟩, .int .i64 ver), (⟨w.heap.size, 1, none⟩, .slice (some ⟨g, 0, none⟩) n cap)] : List (Addr × Value)), p.1.block ∉ fb from fun p hp e => by have h1 := hf _ e; have h2 := (HK1.out.1.2 p hp).1; omega)
        have HS := Lib.hid hs
        have HND := Lib.hid hnd
        clear hb c0 c1 hg hOl hSz hs hf hnd b1 HK1
        have KK := (Kept.start w2).alloc7 (.int .i64 sb) (.int .i64 sn) (.int .i64 su) (.int .i64 mn) (.int .i64 mx) (.int .i64 sm) (.slice ro sh.length rc) 77 _ rfl
        have SC := Lib.hid (sc_cells (b := ⟨sb, sn, su, mn, mx, sm, sh⟩) KK)
        have HS2 := Lib.hid (HS.out.step KK.1)
        have KBB := Lib.hid (HK2.out.step KK.1)
        have HWS := Lib.hid (show w.heap.size ≤ w2.heap.size from HK2.out.1.1.size)
        have HLN := Lib.hid (show ((sofN l k).length + 1) * 72 ≤ 140737488355328 from by rw [sofN_len]; omega)
        clear KK
        go_wp2_with (first | (at_builtin; refine wpList_append_km (W := w) rfl _ _ rfl w.heap.size (.slice a4 k c4) _ (sofN l k) f ⟨sb, sn, su, mn, mx, sm, sh⟩ ro sh.length rc fb w2.heap.size 1 rfl rfl KBB.out SC.out HS2.out HD3.out HND.out HD1.out HD2.out HLb.out HLN.out (Nat.le_refl _) (by simp only [World.size_alloc]; have := HWS.out; omega) ?_; intro v' w6 KB6; obtain ⟨ao', c', hv'⟩ := KB6.2.1.shape; rw [show sofN l k ++ [⟨sb, sn, su, mn, mx, sm, sh⟩] = sofN l (k + 1) from HSU.out] at KB6 hv'; rw [sofN_len] at hv'; subst hv'))
        have HK6 := Lib.hid KB6
        clear KB6
        go_wp2
        go_roundw
        case rel => exact ⟨k + 1, ao', c', f ++ fb, by omega, by go_num, rfl, .inr hTO, HK6⟩
        case measure => simp [intOf]; omega
    · obtain rfl : k = n := by omega
      have AN := Lib.hid (show sofT ver l = sofN l k from by
        rcases hok with h | h
        · rw [sofT_zero (by rw [hln]; exact h), h]; rfl
        · rw [sofT_yes (by rw [hln]; exact h), hln])
      have hsd : decide ((k : Int) < (k : Int)) = false := decide_eq_false (by omega)
      clear hok
      go_wp2
      go_ret
      exact ⟨_, f, rfl, by rw [AN.out]; exact HK.out.2.1, HK.out.1.1⟩
end Go.Proofs.Ytcfcohnkkgickaa

namespace Go.Proofs.Ytcfcohnkkgickaa
open Go.RowKit Num

theorem sms_open {w : World} {v : Value} {l : List Sm} {fp : List Nat} (h : SliceRep smTy w v l fp) : ∃ ao cap, v = .slice ao l.length cap ∧ l.length ≤ cap ∧ (l.length = 0 ∨ ∃ g, ao = some ⟨g, 0, none⟩ ∧ g < w.heap.size ∧ ∀ k (hk : k < l.length), ∃ v fp', CellsAt w g (k * 7) (sc l[k] v) ∧ SliceRep intTy w v l[k].h fp') := by
  rcases h with ⟨rfl, _, rfl | ⟨ad, cap, rfl⟩⟩ | ⟨g, cap, f, rfl, hc, ho, he, _⟩
  · exact ⟨_, _, rfl, Nat.zero_le _, .inl rfl⟩
  · exact ⟨_, _, rfl, Nat.zero_le _, .inl rfl⟩
  · refine ⟨_, cap, rfl, hc, .inr ⟨g, rfl, ho.1, fun k hk => ?_⟩⟩
    obtain ⟨cs, f', hcs, ⟨v, rfl, hr⟩, _⟩ := he.get k hk
    rw [Nat.zero_add] at hcs
    exact ⟨v, f', hcs, hr⟩
theorem sms_cells {w : World} {ao : Option Addr} {n c : Nat} {l : List Sm} {fp : List Nat} (h : SliceRep smTy w (.slice ao n c) l fp) {k : Nat} (hk : k < l.length) : ∃ g, ao = some ⟨g, 0, none⟩ ∧ g < w.heap.size ∧ ∃ v fp', CellsAt w g (k * 7) (sc l[k] v) ∧ SliceRep intTy w v l[k].h fp' := by
  obtain ⟨_, _, e9, _, hx⟩ := sms_open h
  simp only [Value.slice.injEq] at e9
  obtain ⟨rfl, _, rfl⟩ := e9
  obtain ⟨g, e, hg, hx⟩ := hx.resolve_left (by omega)
  exact ⟨g, e, hg, hx k hk⟩

/-- The summaries that the laws write from k on, and the number behind them. -/
def markSm : Int → List Sm → List Sm
  | _, [] => []
  | k, b :: l => ⟨k, k + 1, k + 1 + 1, k + 1 + 1 + 1, k + 1 + 1 + 1 + 1, k + 1 + 1 + 1 + 1 + 1, markI (k + 1 + 1 + 1 + 1 + 1 + 1) b.h.length⟩ :: markSm (k + 1 + 1 + 1 + 1 + 1 + 1 + (b.h.length : Int)) l
def mkEnd : Int → List Sm → Int
  | k, [] => k
  | k, b :: l => mkEnd (k + 1 + 1 + 1 + 1 + 1 + 1 + (b.h.length : Int)) l
theorem markSm_len : ∀ (l : List Sm) (k : Int), (markSm k l).length = l.length
  | [], _ => rfl
  | b :: l, k => by rw [markSm, List.length_cons, markSm_len l, List.length_cons]
theorem mkEnd_app : ∀ (p q : List Sm) (k : Int), mkEnd k (p ++ q) = mkEnd (mkEnd k p) q
  | [], _, _ => rfl
  | b :: p, q, k => by rw [List.cons_append, mkEnd, mkEnd, mkEnd_app p q]
theorem markSm_app : ∀ (p q : List Sm) (k : Int), markSm k (p ++ q) = markSm k p ++ markSm (mkEnd k p) q
  | [], _, _ => rfl
  | b :: p, q, k => by rw [List.cons_append, markSm, markSm, mkEnd, markSm_app p q, List.cons_append]
theorem mkEnd_ge : ∀ (l : List Sm) (k : Int), k ≤ mkEnd k l
  | [], _ => Int.le_refl _
  | b :: l, k => by
    have h2 := mkEnd_ge l (k + 1 + 1 + 1 + 1 + 1 + 1 + (b.h.length : Int))
    rw [mkEnd]
    omega
theorem mkEnd_le : ∀ (l : List Sm) (k : Int), (∀ b ∈ l, b.h.length ≤ 12) → mkEnd k l ≤ k + (l.length : Int) * 18
  | [], k, _ => by simp [mkEnd]
  | b :: l, k, h => by
    have h1 := h b (by simp)
    have h2 := mkEnd_le l (k + 1 + 1 + 1 + 1 + 1 + 1 + (b.h.length : Int)) (fun x hx => h x (by simp [hx]))
    rw [mkEnd, List.length_cons]
    have e : ((l.length + 1 : Nat) : Int) * 18 = (l.length : Int) * 18 + 18 := by omega
    omega
theorem markSm_at (p : List Sm) (b : Sm) (q : List Sm) (k : Int) (h : p.length < (markSm k (p ++ b :: q)).length) : (markSm k (p ++ b :: q))[p.length] = ⟨mkEnd k p, mkEnd k p + 1, mkEnd k p + 1 + 1, mkEnd k p + 1 + 1 + 1, mkEnd k p + 1 + 1 + 1 + 1, mkEnd k p + 1 + 1 + 1 + 1 + 1, markI (mkEnd k p + 1 + 1 + 1 + 1 + 1 + 1) b.h.length⟩ := by
  have e : markSm k (p ++ b :: q) = markSm k p ++ (⟨mkEnd k p, mkEnd k p + 1, mkEnd k p + 1 + 1, mkEnd k p + 1 + 1 + 1, mkEnd k p + 1 + 1 + 1 + 1, mkEnd k p + 1 + 1 + 1 + 1 + 1, markI (mkEnd k p + 1 + 1 + 1 + 1 + 1 + 1) b.h.length⟩ :: markSm (mkEnd k p + 1 + 1 + 1 + 1 + 1 + 1 + (b.h.length : Int)) q) := by rw [markSm_app, markSm]
  have : ∀ (X : List Sm) (hx : p.length < X.length), X = markSm k p ++ (⟨mkEnd k p, mkEnd k p + 1, mkEnd k p + 1 + 1, mkEnd k p + 1 + 1 + 1, mkEnd k p + 1 + 1 + 1 + 1, mkEnd k p + 1 + 1 + 1 + 1 + 1, markI (mkEnd k p + 1 + 1 + 1 + 1 + 1 + 1) b.h.length⟩ :: markSm (mkEnd k p + 1 + 1 + 1 + 1 + 1 + 1 + (b.h.length : Int)) q) → X[p.length] = ⟨mkEnd k p, mkEnd k p + 1, mkEnd k p + 1 + 1, mkEnd k p + 1 + 1 + 1, mkEnd k p + 1 + 1 + 1 + 1, mkEnd k p + 1 + 1 + 1 + 1 + 1, markI (mkEnd k p + 1 + 1 + 1 + 1 + 1 + 1) b.h.length⟩ := fun X hx eX => by
    subst eX
    rw [List.getElem_append_right (by rw [markSm_len]; exact Nat.le_refl _)]
    simp [markSm_len]
  exact this _ h e

/-- Six stores from o on. -/
def set6 (w : World) (g o : Nat) (k : Int) : World := (((((w.setCell ⟨g, o, none⟩ (.int .i64 (k))).setCell ⟨g, o + 1, none⟩ (.int .i64 (k + 1))).setCell ⟨g, o + 2, none⟩ (.int .i64 (k + 1 + 1))).setCell ⟨g, o + 3, none⟩ (.int .i64 (k + 1 + 1 + 1))).setCell ⟨g, o + 4, none⟩ (.int .i64 (k + 1 + 1 + 1 + 1))).setCell ⟨g, o + 5, none⟩ (.int .i64 (k + 1 + 1 + 1 + 1 + 1))
theorem OwnBlk.st6 {w : World} {g N o : Nat} {k : Int} (h : OwnBlk w g N) : OwnBlk (set6 w g o k) g N := ((((((h.set _ _).set _ _).set _ _).set _ _).set _ _).set _ _)
theorem Chg.st6 {fp : List Nat} {W w : World} {g o : Nat} {k : Int} (h : Chg fp W w) (hg : g ∈ fp) : Chg fp W (set6 w g o k) := ((((((h.set (a := ⟨g, o, none⟩) hg _).set (a := ⟨g, o + 1, none⟩) hg _).set (a := ⟨g, o + 2, none⟩) hg _).set (a := ⟨g, o + 3, none⟩) hg _).set (a := ⟨g, o + 4, none⟩) hg _).set (a := ⟨g, o + 5, none⟩) hg _)
theorem Elems.st6 {α : Type} {E : Ty α} {w : World} {g o k : Nat} {l : List α} {f : List Nat} {K : Int} (h : Elems E w g k l f) (ho : (k + l.length) * E.size ≤ o) (hg : g ∉ f) : Elems E (set6 w g o K) g k l f := ((((((h.set (Nat.le_trans ho (by omega)) hg).set (Nat.le_trans ho (by omega)) hg).set (Nat.le_trans ho (by omega)) hg).set (Nat.le_trans ho (by omega)) hg).set (Nat.le_trans ho (by omega)) hg).set (Nat.le_trans ho (by omega)) hg)
theorem Elems.st6f {α : Type} {E : Ty α} {w : World} {g o k : Nat} {l : List α} {f : List Nat} {K : Int} (h : Elems E w g k l f) (ho : o + 5 < k * E.size) (hg : g ∉ f) : Elems E (set6 w g o K) g k l f := ((((((h.set_front (o := o + 0) (u := .int .i64 (K)) (by omega) hg).set_front (o := o + 1) (u := .int .i64 (K + 1)) (by omega) hg).set_front (o := o + 2) (u := .int .i64 (K + 1 + 1)) (by omega) hg).set_front (o := o + 3) (u := .int .i64 (K + 1 + 1 + 1)) (by omega) hg).set_front (o := o + 4) (u := .int .i64 (K + 1 + 1 + 1 + 1)) (by omega) hg).set_front (o := o + 5) (u := .int .i64 (K + 1 + 1 + 1 + 1 + 1)) (by omega) hg)
theorem SliceRep.st6 {α : Type} {E : Ty α} {w : World} {v : Value} {l : List α} {fp : List Nat} {g o : Nat} {k : Int} (h : SliceRep E w v l fp) (hg : ∀ x ∈ fp, x ≠ g) : SliceRep E (set6 w g o k) v l fp := ((((((h.set _ _ hg).set _ _ hg).set _ _ hg).set _ _ hg).set _ _ hg).set _ _ hg)
theorem set6_cells {w : World} {g N o : Nat} {k : Int} {v : Value} (h : OwnBlk w g N) (ho : o + 6 < N) (hv : w.cell? ⟨g, o + 6, none⟩ = some v) : CellsAt (set6 w g o k) g o [.int .i64 (k), .int .i64 (k + 1), .int .i64 (k + 1 + 1), .int .i64 (k + 1 + 1 + 1), .int .i64 (k + 1 + 1 + 1 + 1), .int .i64 (k + 1 + 1 + 1 + 1 + 1), v] := by
  intro j hj
  match j, hj with
  | 0, _ =>
    show (set6 w g o k).cell? ⟨g, o, none⟩ = _
    unfold set6
    rw [set_other (by omega), set_other (by omega), set_other (by omega), set_other (by omega), set_other (by omega)]
    exact set_same (h.2 _ (by omega)).1
  | 1, _ =>
    show (set6 w g o k).cell? ⟨g, o + 1, none⟩ = _
    unfold set6
    rw [set_other (by omega), set_other (by omega), set_other (by omega), set_other (by omega)]
    exact set_same ((h.set _ _).2 _ (by omega)).1
  | 2, _ =>
    show (set6 w g o k).cell? ⟨g, o + 2, none⟩ = _
    unfold set6
    rw [set_other (by omega), set_other (by omega), set_other (by omega)]
    exact set_same (((h.set _ _).set _ _).2 _ (by omega)).1
  | 3, _ =>
    show (set6 w g o k).cell? ⟨g, o + 3, none⟩ = _
    unfold set6
    rw [set_other (by omega), set_other (by omega)]
    exact set_same ((((h.set _ _).set _ _).set _ _).2 _ (by omega)).1
  | 4, _ =>
    show (set6 w g o k).cell? ⟨g, o + 4, none⟩ = _
    unfold set6
    rw [set_other (by omega)]
    exact set_same (((((h.set _ _).set _ _).set _ _).set _ _).2 _ (by omega)).1
  | 5, _ =>
    show (set6 w g o k).cell? ⟨g, o + 5, none⟩ = _
    unfold set6
    exact set_same ((((((h.set _ _).set _ _).set _ _).set _ _).set _ _).2 _ (by omega)).1
  | 6, _ =>
    show (set6 w g o k).cell? ⟨g, o + 6, none⟩ = _
    unfold set6
    rw [set_other (by omega), set_other (by omega), set_other (by omega), set_other (by omega), set_other (by omega), set_other (by omega)]
    exact hv
  | j + 7, hj => exact absurd hj (by simp only [List.length_cons, List.length_nil]; omega)

/-- Summaries half marked: p is, q is not. -/
def MkInvM (W w : World) (g N : Nat) (k0 : Int) (p q : List Sm) (f1 f2 : List Nat) : Prop :=
  Chg (g :: (f1 ++ f2)) W w ∧ OwnBlk w g (N * 7) ∧ Elems smTy w g 0 (markSm k0 p) f1 ∧ Elems smTy w g p.length q f2 ∧ (g :: (f1 ++ f2)).Nodup
theorem MkInvM.step {W w w1 : World} {g N : Nat} {k0 : Int} {p q : List Sm} {b : Sm} {f1 fa fb : List Nat} {v : Value} (h : MkInvM W w g N k0 p (b :: q) f1 (fa ++ fb)) (hc1 : w.cell? ⟨g, p.length * 7 + 6, none⟩ = some v) (hlt : p.length < N) (hq : Elems smTy w g (p.length + 1) q fb)
    (hc : Chg fa (set6 w g (p.length * 7) (mkEnd k0 p)) w1) (hs : SliceRep intTy w1 v (markI (mkEnd k0 p + 1 + 1 + 1 + 1 + 1 + 1) b.h.length) fa) : MkInvM W w1 g N k0 (p ++ [b]) q (f1 ++ fa) fb := by
  obtain ⟨h1, h2, h3, h4, h5⟩ := h
  have hnd := List.nodup_cons.1 h5
  have hga : g ∉ fa := fun e => hnd.1 (by simp [e])
  have hg1 : g ∉ f1 := fun e => hnd.1 (by simp [e])
  have hgb : g ∉ fb := fun e => hnd.1 (by simp [e])
  have hn2 := List.nodup_append.1 hnd.2
  have hd1 : ∀ k ∈ f1, k ∉ fa := fun k hk hka => hn2.2.2 k hk k (by simp [hka]) rfl
  have hn3 := List.nodup_append.1 hn2.2.1
  have hdb : ∀ k ∈ fb, k ∉ fa := fun k hk hka => hn3.2.2 k hka k hk rfl
  have own6 := h2.st6 (o := p.length * 7) (k := mkEnd k0 p)
  have hgk := hc.block g own6.1 hga
  have hlen : (markSm k0 p).length = p.length := markSm_len p k0
  have pre := h3.st6 (o := p.length * 7) (K := mkEnd k0 p) (by rw [Nat.zero_add, hlen]; exact Nat.le_refl _) hg1
  have pre1 := Elems.keep hgk pre (fun k hk => hc.block k (pre.lt k hk) (hd1 k hk))
  have post := hq.st6f (o := p.length * 7) (K := mkEnd k0 p) (by show p.length * 7 + 5 < (p.length + 1) * 7; omega) hgb
  have post1 := Elems.keep hgk post (fun k hk => hc.block k (post.lt k hk) (hdb k hk))
  refine ⟨?_, own6.keep hgk, ?_, by rw [List.length_append]; exact post1, by rw [List.append_assoc]; exact h5⟩
  · rw [List.append_assoc]
    exact (h1.st6 (by simp)).trans (hc.mono (fun k hk => by simp [hk]))
  · rw [markSm_app]
    refine pre1.snoc (x := ⟨mkEnd k0 p, mkEnd k0 p + 1, mkEnd k0 p + 1 + 1, mkEnd k0 p + 1 + 1 + 1, mkEnd k0 p + 1 + 1 + 1 + 1, mkEnd k0 p + 1 + 1 + 1 + 1 + 1, markI (mkEnd k0 p + 1 + 1 + 1 + 1 + 1 + 1) b.h.length⟩) (cs := sc ⟨mkEnd k0 p, mkEnd k0 p + 1, mkEnd k0 p + 1 + 1, mkEnd k0 p + 1 + 1 + 1, mkEnd k0 p + 1 + 1 + 1 + 1, mkEnd k0 p + 1 + 1 + 1 + 1 + 1, markI (mkEnd k0 p + 1 + 1 + 1 + 1 + 1 + 1) b.h.length⟩ v) (fun j hj => ?_) ⟨v, rfl, hs⟩
    rw [Nat.zero_add, hlen]
    have hk2 := World.cell?_of_block (w := w1) (w' := set6 w g (p.length * 7) (mkEnd k0 p)) (a := ⟨g, p.length * 7 + j, none⟩) hgk.symm
    show w1.cell? ⟨g, p.length * 7 + j, none⟩ = _
    rw [← hk2]
    exact set6_cells h2 (by omega) hc1 j hj

set_option maxRecDepth 8000 in
set_option maxHeartbeats 3200000 in
theorem law_markSms (v : Value) (l : List Sm) (fp : List Nat) (k0 : Int) (w : World) (hn : l.length ≤ 1048576) (hE : mkEnd k0 l ≤ 1099511627776) (hk0 : 0 ≤ k0) (hv : SliceRep smTy w v l fp) (hnd : fp.Nodup) :
    Calls Try.prog 68 #[v, .int .i64 k0] w fun e w' => e = .returned (.int .i64 (mkEnd k0 l)) ∧ Chg fp w w' ∧ SliceRep smTy w' v (markSm k0 l) fp := by
  have hnI : (l.length : Int) ≤ 1048576 := by omega
  rcases hv with ⟨rfl, rfl, hv⟩ | ⟨g, cap, f, rfl, hc, ho, he, rfl⟩
  · have hv' := hv
    obtain ⟨ao, cap, rfl⟩ : ∃ ao cap, v = .slice ao 0 cap := by rcases hv with rfl | ⟨ad, cap, rfl⟩ <;> exact ⟨_, _, rfl⟩
    have HV := Lib.hid hv'
    clear hv hv' hnd hE
    go_enter Try.func68, Try.ntmps68
    go_wp2
    refine wp_loop_rounds 1 ?_
    rw [rounds_succ]
    go_wp2
    go_ret
    exact ⟨rfl, Chg.refl _ _, .inl ⟨rfl, rfl, HV.out⟩⟩
  · obtain ⟨N, hN⟩ : ∃ N, N = l.length := ⟨_, rfl⟩
    have HR := Lib.hid hE
    have HN := Lib.hid hN
    have HC := Lib.hid (show N ≤ cap by omega)
    have H0 := Lib.hid (show MkInvM w w g N k0 [] l [] f from ⟨Chg.refl _ _, by rw [hN]; exact ho, rfl, he, hnd⟩)
    rw [← hN] at hnI ⊢
    clear ho he hnd hE hn hN hc
    go_enter Try.func68, Try.ntmps68
    go_wp2_with fail
    go_loopw [1, 5] (fun kv iv wr => ∃ (p q : List Sm) (f1 f2 : List Nat) (P : Nat) (K : Int), Hid (P = p.length) ∧ P ≤ N ∧ iv = .int .i64 P ∧ kv = .int .i64 K ∧ 0 ≤ K ∧ Hid (K = mkEnd k0 p) ∧ Hid (l = p ++ q) ∧ Hid (f = f1 ++ f2) ∧ Hid (MkInvM w wr g N k0 p q f1 f2)) (fun _ iv _ => N - (intOf iv).toNat)
    case atStart => exact ⟨[], l, [], f, 0, k0, Lib.hid rfl, Nat.zero_le _, rfl, rfl, hk0, Lib.hid rfl, Lib.hid rfl, Lib.hid rfl, H0⟩
    case round =>
      clear H0
      obtain ⟨p, q, f1, f2, P, K, HP, hPN, rfl, rfl, hK0, HK, HL, HF, HM⟩ := hrel
      by_cases hlt : P < N
      · have hltI : (P : Int) < (N : Int) := by omega
        have hq : q ≠ [] := fun e => by have h1 := HN.out; have h2 := HP.out; rw [HL.out, e, List.append_nil] at h1; omega
        obtain ⟨b, q', rfl⟩ := List.exists_cons_of_ne_nil hq
        obtain ⟨h1, h2, h3, h4, h5⟩ := HM.out
        obtain ⟨cs, fa, fb, hf2, hcs, ⟨vb, rfl, hsl⟩, hrest⟩ := h4
        subst hf2
        have hrl : K + 1 + 1 + 1 + 1 + 1 + 1 + (b.h.length : Int) ≤ 1099511627776 := by
          have h1 := HR.out
          rw [HL.out, mkEnd_app, ← HK.out, mkEnd] at h1
          have h2 := mkEnd_ge q' (K + 1 + 1 + 1 + 1 + 1 + 1 + (b.h.length : Int))
          omega
        have c6 : wr.cell? ⟨g, P * 7 + 6, none⟩ = some vb := by rw [HP.out]; exact hcs 6 (by simp [sc])
        obtain ⟨⟨v0, e0⟩, z0⟩ := h2.2 (P * 7) (by omega)
        obtain ⟨⟨v1, e1⟩, z1⟩ := h2.2 (P * 7 + 1) (by omega)
        obtain ⟨⟨v2, e2⟩, z2⟩ := h2.2 (P * 7 + 2) (by omega)
        obtain ⟨⟨v3, e3⟩, z3⟩ := h2.2 (P * 7 + 3) (by omega)
        obtain ⟨⟨v4, e4⟩, z4⟩ := h2.2 (P * 7 + 4) (by omega)
        obtain ⟨⟨v5, e5⟩, z5⟩ := h2.2 (P * 7 + 5) (by omega)
        have hgl := h2.1
        have hga : ∀ k ∈ fa, k ≠ g := fun k hk e => (List.nodup_cons.1 h5).1 (by rw [← e]; simp [hk])
        have SL := Lib.hid (show SliceRep intTy ((((((wr.setCell ⟨g, P * 7, none⟩ (.int .i64 (K))).setCell ⟨g, P * 7 + 1, none⟩ (.int .i64 (K + 1))).setCell ⟨g, P * 7 + 2, none⟩ (.int .i64 (K + 1 + 1))).setCell ⟨g, P * 7 + 3, none⟩ (.int .i64 (K + 1 + 1 + 1))).setCell ⟨g, P * 7 + 4, none⟩ (.int .i64 (K + 1 + 1 + 1 + 1))).setCell ⟨g, P * 7 + 5, none⟩ (.int .i64 (K + 1 + 1 + 1 + 1 + 1))) vb b.h fa from hsl.st6 (o := P * 7) (k := K) hga)
        have ST := Lib.hid (fun w1 (hc : Chg fa ((((((wr.setCell ⟨g, P * 7, none⟩ (.int .i64 (K))).setCell ⟨g, P * 7 + 1, none⟩ (.int .i64 (K + 1))).setCell ⟨g, P * 7 + 2, none⟩ (.int .i64 (K + 1 + 1))).setCell ⟨g, P * 7 + 3, none⟩ (.int .i64 (K + 1 + 1 + 1))).setCell ⟨g, P * 7 + 4, none⟩ (.int .i64 (K + 1 + 1 + 1 + 1))).setCell ⟨g, P * 7 + 5, none⟩ (.int .i64 (K + 1 + 1 + 1 + 1 + 1))) w1) (hs : SliceRep intTy w1 vb (markI (K + 1 + 1 + 1 + 1 + 1 + 1) b.h.length) fa) => MkInvM.step (N := N) HM.out (by rw [← HP.out]; exact c6) (by have := HP.out; omega) hrest (by rw [← HP.out, ← HK.out]; exact hc) (by rw [← HK.out]; exact hs))
        have HK2 := Lib.hid (show K + 1 + 1 + 1 + 1 + 1 + 1 + (b.h.length : Int) = mkEnd k0 (p ++ [b]) by rw [mkEnd_app, ← HK.out]; rfl)
        have HL2 := Lib.hid (show l = (p ++ [b]) ++ q' by rw [HL.out, List.append_assoc]; rfl)
        have HF2 := Lib.hid (show f = (f1 ++ fa) ++ fb by rw [HF.out, List.append_assoc])
        obtain ⟨m, hm⟩ : ∃ m, m = b.h.length := ⟨_, rfl⟩
        obtain ⟨vo, vc, rfl⟩ := hsl.val
        rw [← hm] at hrl HK2 c6 SL ST
        have HM2 := Lib.hid hm
        clear h1 h2 h3 h5 hcs hsl hrest hq hga hm
        go_wp2_with fail
        refine (law_markI _ b.h fa (K + 1 + 1 + 1 + 1 + 1 + 1) _ (by have := HM2.out; omega) (by omega) (by omega) SL.out).mono ?_
        rintro e w1 ⟨rfl, hcg, hs⟩
        have HI := Lib.hid (ST.out w1 hcg (by rw [← HM2.out] at hs; exact hs))
        rw [← HM2.out]
        clear hcg hs c6 e0 z0 e1 z1 e2 z2 e3 z3 e4 z4 e5 z5 hgl SL ST
        go_wp2
        go_roundw
        case rel => exact ⟨p ++ [b], q', f1 ++ fa, fb, P + 1, K + 1 + 1 + 1 + 1 + 1 + 1 + (m : Int), Lib.hid (by rw [List.length_append, HP.out]; rfl), by omega, by go_num, rfl, by omega, HK2, HL2, HF2, HI⟩
        case measure => simp [intOf]; omega
      · obtain rfl : P = N := by omega
        have hsd : decide ((P : Int) < (P : Int)) = false := decide_eq_false (by omega)
        have hq : q = [] := by
          have := HN.out
          have h2 := HP.out
          rw [HL.out, List.length_append] at this
          exact List.eq_nil_of_length_eq_zero (by omega)
        subst hq
        have AN := Lib.hid (show K = mkEnd k0 l by rw [HL.out, List.append_nil]; exact HK.out)
        have RP := Lib.hid (show Chg (g :: f) w wr ∧ SliceRep smTy wr (.slice (some ⟨g, 0, none⟩) P cap) (markSm k0 l) (g :: f) from by
          obtain ⟨h1, h2, h3, h4, h5⟩ := HM.out
          have h4' : f2 = [] := h4
          have e1 : f = f1 := by rw [HF.out, h4', List.append_nil]
          have e2 : p = l := by rw [HL.out, List.append_nil]
          rw [h4', List.append_nil, ← e1] at h1
          rw [e2, ← e1] at h3
          have hlen : (markSm k0 l).length = P := by rw [markSm_len]; exact HN.out.symm
          exact ⟨h1, .inr ⟨g, cap, f, by rw [hlen], by rw [hlen]; exact HC.out, by rw [hlen]; exact h2, h3, rfl⟩⟩)
        go_wp2
        go_ret
        exact ⟨by rw [← AN.out]; rfl, RP.out⟩
end Go.Proofs.Ytcfcohnkkgickaa

namespace Go.Proofs.Ytcfcohnkkgickaa
open Go.RowKit Num

set_option maxRecDepth 8000 in
set_option maxHeartbeats 3200000 in
theorem law_heldSms (v : Value) (l : List Sm) (fp : List Nat) (k0 : Int) (w : World) (hn : l.length ≤ 1048576) (hE : mkEnd k0 l ≤ 1099511627776) (hk0 : 0 ≤ k0) (hv : SliceRep smTy w v (markSm k0 l) fp) :
    Calls Try.prog 69 #[v, .int .i64 k0] w fun e w' => e = .returned (.int .i64 (mkEnd k0 l)) ∧ Below w.heap.size w w' := by
  have hnI : (l.length : Int) ≤ 1048576 := by omega
  rcases hv with ⟨hl0, rfl, hv⟩ | ⟨g, cap, f, rfl, hc, ho, he, rfl⟩
  · have hv' := hv
    obtain ⟨ao, cap, rfl⟩ : ∃ ao cap, v = .slice ao 0 cap := by rcases hv with rfl | ⟨ad, cap, rfl⟩ <;> exact ⟨_, _, rfl⟩
    obtain rfl : l = [] := by
      have := congrArg List.length hl0
      rw [markSm_len] at this
      exact List.eq_nil_of_length_eq_zero this
    clear hv hv' hE
    go_enter Try.func69, Try.ntmps69
    go_wp2
    refine wp_loop_rounds 1 ?_
    rw [rounds_succ]
    go_wp2
    go_ret
    exact ⟨rfl, Below.refl _ _⟩
  · rw [markSm_len] at ho hc ⊢
    obtain ⟨N, hN⟩ : ∃ N, N = l.length := ⟨_, rfl⟩
    have HR := Lib.hid hE
    have HN := Lib.hid hN
    have HE := Lib.hid (show SliceRep smTy w (.slice (some ⟨g, 0, none⟩) N cap) (markSm k0 l) (g :: f) from .inr ⟨g, cap, f, by rw [markSm_len, hN], by rw [markSm_len]; exact hc, by rw [markSm_len]; exact ho, he, rfl⟩)
    rw [← hN] at hnI ⊢
    clear he hE hn hN ho hc
    go_enter Try.func69, Try.ntmps69
    go_wp2_with fail
    go_loopw [1, 5] (fun kv iv wr => ∃ (p q : List Sm) (P : Nat) (K : Int), Hid (P = p.length) ∧ P ≤ N ∧ iv = .int .i64 P ∧ kv = .int .i64 K ∧ 0 ≤ K ∧ Hid (K = mkEnd k0 p) ∧ Hid (l = p ++ q) ∧ Hid (Below w.heap.size w wr)) (fun _ iv _ => N - (intOf iv).toNat)
    case atStart => exact ⟨[], l, 0, k0, Lib.hid rfl, Nat.zero_le _, rfl, rfl, hk0, Lib.hid rfl, Lib.hid rfl, Lib.hid (Below.refl _ _)⟩
    case round =>
      obtain ⟨p, q, P, K, HP, hPN, rfl, rfl, hK0, HK, HL, HB⟩ := hrel
      by_cases hlt : P < N
      · have hltI : (P : Int) < (N : Int) := by omega
        have hq : q ≠ [] := fun e => by have h1 := HN.out; have h2 := HP.out; rw [HL.out, e, List.append_nil] at h1; omega
        obtain ⟨b, q', rfl⟩ := List.exists_cons_of_ne_nil hq
        have hPl : p.length < (markSm k0 l).length := by rw [markSm_len]; have := HN.out; have := HP.out; omega
        have hbel : SliceRep smTy wr (.slice (some ⟨g, 0, none⟩) N cap) (markSm k0 l) (g :: f) := HE.out.step HB.out
        obtain ⟨g9, e9, hgl, vb, f', hcs, hsl⟩ := sms_cells hbel hPl
        have e8 : g = g9 := congrArg Addr.block (Option.some.inj e9)
        rw [← e8] at hcs hgl
        have hat : (markSm k0 l)[p.length] = ⟨mkEnd k0 p, mkEnd k0 p + 1, mkEnd k0 p + 1 + 1, mkEnd k0 p + 1 + 1 + 1, mkEnd k0 p + 1 + 1 + 1 + 1, mkEnd k0 p + 1 + 1 + 1 + 1 + 1, markI (mkEnd k0 p + 1 + 1 + 1 + 1 + 1 + 1) b.h.length⟩ := by
          have := HL.out
          subst this
          exact markSm_at p b q' k0 hPl
        rw [hat, ← HK.out] at hcs hsl
        rw [← HP.out] at hcs
        have c0 : wr.cell? ⟨g, P * 7, none⟩ = some (.int .i64 (K)) := hcs 0 (by simp [sc])
        have c1 : wr.cell? ⟨g, P * 7 + 1, none⟩ = some (.int .i64 (K + 1)) := hcs 1 (by simp [sc])
        have c2 : wr.cell? ⟨g, P * 7 + 2, none⟩ = some (.int .i64 (K + 1 + 1)) := hcs 2 (by simp [sc])
        have c3 : wr.cell? ⟨g, P * 7 + 3, none⟩ = some (.int .i64 (K + 1 + 1 + 1)) := hcs 3 (by simp [sc])
        have c4 : wr.cell? ⟨g, P * 7 + 4, none⟩ = some (.int .i64 (K + 1 + 1 + 1 + 1)) := hcs 4 (by simp [sc])
        have c5 : wr.cell? ⟨g, P * 7 + 5, none⟩ = some (.int .i64 (K + 1 + 1 + 1 + 1 + 1)) := hcs 5 (by simp [sc])
        have c6 : wr.cell? ⟨g, P * 7 + 6, none⟩ = some vb := hcs 6 (by simp [sc])
        have hrl : K + 1 + 1 + 1 + 1 + 1 + 1 + (b.h.length : Int) ≤ 1099511627776 := by
          have h1 := HR.out
          rw [HL.out, mkEnd_app, ← HK.out, mkEnd] at h1
          have h2 := mkEnd_ge q' (K + 1 + 1 + 1 + 1 + 1 + 1 + (b.h.length : Int))
          omega
        have SL := Lib.hid hsl
        have HK2 := Lib.hid (show K + 1 + 1 + 1 + 1 + 1 + 1 + (b.h.length : Int) = mkEnd k0 (p ++ [b]) by rw [mkEnd_app, ← HK.out]; rfl)
        have HL2 := Lib.hid (show l = (p ++ [b]) ++ q' by rw [HL.out, List.append_assoc]; rfl)
        obtain ⟨vo, vc, rfl⟩ := hsl.val
        rw [markI_len] at c6 SL
        obtain ⟨m, hm⟩ : ∃ m, m = b.h.length := ⟨_, rfl⟩
        rw [← hm] at hrl HK2 c6 SL
        have q0 : (K != K) = false := bne_self_eq_false _
        have q1 : (K + 1 != K + 1) = false := bne_self_eq_false _
        have q2 : (K + 1 + 1 != K + 1 + 1) = false := bne_self_eq_false _
        have q3 : (K + 1 + 1 + 1 != K + 1 + 1 + 1) = false := bne_self_eq_false _
        have q4 : (K + 1 + 1 + 1 + 1 != K + 1 + 1 + 1 + 1) = false := bne_self_eq_false _
        have q5 : (K + 1 + 1 + 1 + 1 + 1 != K + 1 + 1 + 1 + 1 + 1) = false := bne_self_eq_false _
        have z0 : ¬ K + 1 + 1 + 1 + 1 + 1 + 1 + (m : Int) < 0 := by omega
        have z1 : decide (K + 1 + 1 + 1 + 1 + 1 + 1 + (m : Int) < 0) = false := decide_eq_false z0
        clear hcs hsl hq hm hat hPl e9 e8 hbel
        go_wp2_with fail
        refine (law_heldI _ m f' (K + 1 + 1 + 1 + 1 + 1 + 1) _ (by omega) (by omega) (by omega) SL.out).mono ?_
        rintro e w1 ⟨rfl, hb⟩
        have HB2 := Lib.hid (HB.out.trans (hb.mono HB.out.size))
        clear c0 c1 c2 c3 c4 c5 c6 SL hb HB
        go_wp2
        go_roundw
        case rel => exact ⟨p ++ [b], q', P + 1, K + 1 + 1 + 1 + 1 + 1 + 1 + (m : Int), Lib.hid (by rw [List.length_append, HP.out]; rfl), by omega, by go_num, rfl, by omega, HK2, HL2, HB2⟩
        case measure => simp [intOf]; omega
      · obtain rfl : P = N := by omega
        have hsd : decide ((P : Int) < (P : Int)) = false := decide_eq_false (by omega)
        have hq : q = [] := by
          have := HN.out
          have h2 := HP.out
          rw [HL.out, List.length_append] at this
          exact List.eq_nil_of_length_eq_zero (by omega)
        subst hq
        have AN := Lib.hid (show K = mkEnd k0 l by rw [HL.out, List.append_nil]; exact HK.out)
        go_wp2
        go_ret
        exact ⟨by rw [← AN.out]; rfl, HB.out⟩

theorem t14_keep {w w' : World} {a0 a1 a2 a3 a4 a5 a6 a7 a8 a9 a10 a11 a12 a13 : Addr} {v0 v1 v2 v3 v4 v5 v6 v7 v8 v9 v10 v11 v12 v13 : Value} (q : w.cell? a0 = some v0 ∧ w.cell? a1 = some v1 ∧ w.cell? a2 = some v2 ∧ w.cell? a3 = some v3 ∧ w.cell? a4 = some v4 ∧ w.cell? a5 = some v5 ∧ w.cell? a6 = some v6 ∧ w.cell? a7 = some v7 ∧ w.cell? a8 = some v8 ∧ w.cell? a9 = some v9 ∧ w.cell? a10 = some v10 ∧ w.cell? a11 = some v11 ∧ w.cell? a12 = some v12 ∧ w.cell? a13 = some v13) (hb : Below w.heap.size w w') : w'.cell? a0 = some v0 ∧ w'.cell? a1 = some v1 ∧ w'.cell? a2 = some v2 ∧ w'.cell? a3 = some v3 ∧ w'.cell? a4 = some v4 ∧ w'.cell? a5 = some v5 ∧ w'.cell? a6 = some v6 ∧ w'.cell? a7 = some v7 ∧ w'.cell? a8 = some v8 ∧ w'.cell? a9 = some v9 ∧ w'.cell? a10 = some v10 ∧ w'.cell? a11 = some v11 ∧ w'.cell? a12 = some v12 ∧ w'.cell? a13 = some v13 :=
  have k := fun (a : Addr) (v : Value) (h : w.cell? a = some v) => (hb.cell (World.block_lt_of_cell? w _ h)).trans h
  ⟨k _ _ q.1, k _ _ q.2.1, k _ _ q.2.2.1, k _ _ q.2.2.2.1, k _ _ q.2.2.2.2.1, k _ _ q.2.2.2.2.2.1, k _ _ q.2.2.2.2.2.2.1, k _ _ q.2.2.2.2.2.2.2.1, k _ _ q.2.2.2.2.2.2.2.2.1, k _ _ q.2.2.2.2.2.2.2.2.2.1, k _ _ q.2.2.2.2.2.2.2.2.2.2.1, k _ _ q.2.2.2.2.2.2.2.2.2.2.2.1, k _ _ q.2.2.2.2.2.2.2.2.2.2.2.2.1, k _ _ q.2.2.2.2.2.2.2.2.2.2.2.2.2⟩

set_option maxRecDepth 8000 in
set_option maxHeartbeats 3200000 in
theorem law_eqSms (v v' : Value) (l : List Sm) (fp fp' : List Nat) (w : World) (hn : l.length ≤ 1048576) (hr : ∀ s ∈ l, s.h.length ≤ 1048576) (h : SliceRep smTy w v l fp) (h' : SliceRep smTy w v' l fp') :
    Calls Try.prog 67 #[v, v'] w fun e w' => e = .returned (.bool true) ∧ Below w.heap.size w w' := by
  obtain ⟨ao, c, rfl, _, _⟩ := sms_open h
  obtain ⟨bo, c', rfl, _, _⟩ := sms_open h'
  obtain ⟨n, hN⟩ : ∃ n, n = l.length := ⟨_, rfl⟩
  have HL := Lib.hid hN
  rw [← hN] at h h' hn ⊢
  have HO := Lib.hid h
  have HP := Lib.hid h'
  have HR := Lib.hid hr
  have hnI : (n : Int) ≤ 1048576 := by omega
  clear h h' hr hN
  go_enter Try.func67, Try.ntmps67
  go_wp2_with fail
  go_loopw [5] (fun iv wr => ∃ k : Nat, k ≤ n ∧ iv = .int .i64 k ∧ Hid (Below w.heap.size w wr)) (fun iv _ => n - (intOf iv).toNat)
  case atStart => exact ⟨0, Nat.zero_le _, rfl, Below.refl _ _⟩
  case round =>
    obtain ⟨k, hk, rfl, HZ⟩ := hrel
    by_cases hlt : k < n
    · have hkI : (k : Int) < (n : Int) := by omega
      have hk' : k < l.length := by rw [← HL.out]; exact hlt
      obtain ⟨g, rfl, hg, va, fa, ha, sa⟩ := sms_cells (HO.out.step HZ.out) hk'
      obtain ⟨h, rfl, hh, vb, fb, hb, sb⟩ := sms_cells (HP.out.step HZ.out) hk'
      have hrl := HR.out l[k] (List.getElem_mem hk')
      obtain ⟨s, hs⟩ : ∃ s, s = l[k] := ⟨_, rfl⟩
      rw [← hs] at ha hb sa sb hrl
      obtain ⟨ra, ca, rfl⟩ := sa.val
      obtain ⟨rb, cb, rfl⟩ := sb.val
      have a0 : wr.cell? ⟨g, k * 7, none⟩ = some (.int .i64 s.b) := ha 0 (by simp [sc])
      have b0 : wr.cell? ⟨h, k * 7, none⟩ = some (.int .i64 s.b) := hb 0 (by simp [sc])
      have a1 : wr.cell? ⟨g, k * 7 + 1, none⟩ = some (.int .i64 s.c) := ha 1 (by simp [sc])
      have b1 : wr.cell? ⟨h, k * 7 + 1, none⟩ = some (.int .i64 s.c) := hb 1 (by simp [sc])
      have a2 : wr.cell? ⟨g, k * 7 + 2, none⟩ = some (.int .i64 s.u) := ha 2 (by simp [sc])
      have b2 : wr.cell? ⟨h, k * 7 + 2, none⟩ = some (.int .i64 s.u) := hb 2 (by simp [sc])
      have a3 : wr.cell? ⟨g, k * 7 + 3, none⟩ = some (.int .i64 s.mn) := ha 3 (by simp [sc])
      have b3 : wr.cell? ⟨h, k * 7 + 3, none⟩ = some (.int .i64 s.mn) := hb 3 (by simp [sc])
      have a4 : wr.cell? ⟨g, k * 7 + 4, none⟩ = some (.int .i64 s.mx) := ha 4 (by simp [sc])
      have b4 : wr.cell? ⟨h, k * 7 + 4, none⟩ = some (.int .i64 s.mx) := hb 4 (by simp [sc])
      have a5 : wr.cell? ⟨g, k * 7 + 5, none⟩ = some (.int .i64 s.sm) := ha 5 (by simp [sc])
      have b5 : wr.cell? ⟨h, k * 7 + 5, none⟩ = some (.int .i64 s.sm) := hb 5 (by simp [sc])
      have a6 : wr.cell? ⟨g, k * 7 + 6, none⟩ = some (.slice ra s.h.length ca) := ha 6 (by simp [sc])
      have b6 : wr.cell? ⟨h, k * 7 + 6, none⟩ = some (.slice rb s.h.length cb) := hb 6 (by simp [sc])
      have HRL : s.h.length ≤ 1099511627776 := by omega
      have SA := Lib.hid sa
      have SB := Lib.hid sb
      clear ha hb sa sb hs
      go_wp2_with fail
      go_region_held3 (fun w' => w'.cell? ⟨g, k * 7, none⟩ = some (.int .i64 s.b) ∧ w'.cell? ⟨g, k * 7 + 1, none⟩ = some (.int .i64 s.c) ∧ w'.cell? ⟨g, k * 7 + 2, none⟩ = some (.int .i64 s.u) ∧ w'.cell? ⟨g, k * 7 + 3, none⟩ = some (.int .i64 s.mn) ∧ w'.cell? ⟨g, k * 7 + 4, none⟩ = some (.int .i64 s.mx) ∧ w'.cell? ⟨g, k * 7 + 5, none⟩ = some (.int .i64 s.sm) ∧ w'.cell? ⟨g, k * 7 + 6, none⟩ = some (.slice ra s.h.length ca) ∧ w'.cell? ⟨h, k * 7, none⟩ = some (.int .i64 s.b) ∧ w'.cell? ⟨h, k * 7 + 1, none⟩ = some (.int .i64 s.c) ∧ w'.cell? ⟨h, k * 7 + 2, none⟩ = some (.int .i64 s.u) ∧ w'.cell? ⟨h, k * 7 + 3, none⟩ = some (.int .i64 s.mn) ∧ w'.cell? ⟨h, k * 7 + 4, none⟩ = some (.int .i64 s.mx) ∧ w'.cell? ⟨h, k * 7 + 5, none⟩ = some (.int .i64 s.sm) ∧ w'.cell? ⟨h, k * 7 + 6, none⟩ = some (.slice rb s.h.length cb)) (first | assumption | exact ⟨a0, a1, a2, a3, a4, a5, a6, b0, b1, b2, b3, b4, b5, b6⟩ | exact t14_keep (by assumption) (by assumption)) (first | (go_simp; go_at_call 52; (with_reducible refine (law_eqSE s.b s.c s.u s.mn s.mx s.sm s.h _ _ _ _ _ _ fa fb _ HRL ?_ ?_).mono ?_); (exact SA.out.step (Below.refl _ _).drew); (exact SB.out.step (Below.refl _ _).drew); rintro e9 w9 ⟨rfl, hb⟩))
      all_goals
        have HB := Lib.hid (HZ.out.trans (((Below.refl _ _).drew.trans hb).mono HZ.out.size))
        go_wp2
        go_roundw
        case rel => exact ⟨k + 1, by omega, by go_num, HB.out⟩
        case measure => simp [intOf]; omega
    · obtain rfl : k = n := by omega
      have hsd : decide ((k : Int) < (k : Int)) = false := decide_eq_false (by omega)
      go_wp2
      go_ret
      exact ⟨rfl, HZ.out⟩
end Go.Proofs.Ytcfcohnkkgickaa

namespace Go.Proofs.Ytcfcohnkkgickaa
open Go.ChangeShapes Go.WideShapes Go.ChangeAt Go.RowKit Go.Joins

theorem cells_row : Try.prog.cellsOf 26 = 5 := by kernel_rfl
theorem cellsR_int : Try.prog.cellsOf 3 = 1 := by kernel_rfl
theorem cellsR_bool : Try.prog.cellsOf 4 = 1 := by kernel_rfl

theorem trod_row {H : Type} {enc : TypeId × Value → H} {w : World} {base : Nat} {spare : Nat → Bool} {held : Bool} {n : Nat} {c0 c1 c2 c3 c4 : Value} {y : DataW H × List MemPlace}
    (h : DataW.trod enc Try.prog w base spare held n 26 [c0, c1, c2, c3, c4] = some y) :
    ∃ (i g y' x : Int) (nl : Bool), c0 = .int .i64 i ∧ c1 = .int .i64 g ∧ c2 = .int .i64 y' ∧ c3 = .int .i64 x ∧ c4 = .bool nl ∧ y.2 = [] ∧ (Lit.int .i64 i).wf = true ∧ (Lit.int .i64 g).wf = true ∧ (Lit.int .i64 y').wf = true ∧ (Lit.int .i64 x).wf = true := by
  obtain ⟨xs, m, _, hx, _, hlen, hg⟩ := DataW.trod_struct Try.underlying26 h
  match xs, hlen with
  | [y0, y1, y2, y3, y4], _ =>
    have h0 : DataW.trod enc Try.prog w base spare held m 3 (([c0, c1, c2, c3, c4].drop 0).take (Try.prog.cellsOf 3)) = some y0 := hg 0 _ rfl
    have h1 : DataW.trod enc Try.prog w base spare held m 3 (([c0, c1, c2, c3, c4].drop 1).take (Try.prog.cellsOf 3)) = some y1 := hg 1 _ rfl
    have h2 : DataW.trod enc Try.prog w base spare held m 3 (([c0, c1, c2, c3, c4].drop 2).take (Try.prog.cellsOf 3)) = some y2 := hg 2 _ rfl
    have h3 : DataW.trod enc Try.prog w base spare held m 3 (([c0, c1, c2, c3, c4].drop 3).take (Try.prog.cellsOf 3)) = some y3 := hg 3 _ rfl
    have h4 : DataW.trod enc Try.prog w base spare held m 4 (([c0, c1, c2, c3, c4].drop 4).take (Try.prog.cellsOf 4)) = some y4 := hg 4 _ rfl
    simp only [cellsR_int, cellsR_bool, List.drop_zero, List.drop_succ_cons, List.take_succ_cons, List.take_zero] at h0 h1 h2 h3 h4
    obtain ⟨a, e0, rfl, wa⟩ := DataW.trod_int Try.underlying3 h0
    obtain ⟨b, e1, rfl, wb⟩ := DataW.trod_int Try.underlying3 h1
    obtain ⟨c, e2, rfl, wc⟩ := DataW.trod_int Try.underlying3 h2
    obtain ⟨d, e3, rfl, wd⟩ := DataW.trod_int Try.underlying3 h3
    obtain ⟨e, e4, rfl⟩ := DataW.trod_bool Try.underlying4 h4
    simp only [List.cons.injEq, and_true] at e0 e1 e2 e3 e4
    exact ⟨a, b, c, d, e, e0, e1, e2, e3, e4, by rw [hx]; rfl, wa, wb, wc, wd⟩

set_option maxRecDepth 100000 in
theorem open_row {H : Type} {enc : TypeId × Value → H} {w : World} {base : Nat} {spare : Nat → Bool} {held : Bool} {r : Reach} {b0 : Nat} {v : Value} {d : DataW H} {p : List MemPlace}
    (hv : Value.okWide Try.prog w r b0 26 v) (h : DataW.Trod enc Try.prog w base spare held 26 v d p) :
    ∃ (i g y x : Int) (nl : Bool), v = .agg #[.int .i64 i, .int .i64 g, .int .i64 y, .int .i64 x, .bool nl] ∧ (Lit.int .i64 i).wf = true ∧ (Lit.int .i64 g).wf = true ∧ (Lit.int .i64 y).wf = true ∧ (Lit.int .i64 x).wf = true := by
  obtain ⟨cs, rfl, hsz⟩ := okWide_struct Try.underlying26 hv
  obtain ⟨l⟩ := cs
  match l, hsz.trans cells_row with
  | [c0, c1, c2, c3, c4], _ =>
    obtain ⟨fuel, hf⟩ := h
    obtain ⟨i, g, y, x, nl, rfl, rfl, rfl, rfl, rfl, _, w1, w2, w3, w4⟩ := trod_row (show DataW.trod enc Try.prog w base spare held fuel 26 [c0, c1, c2, c3, c4] = some (d, p) from hf)
    exact ⟨i, g, y, x, nl, rfl, w1, w2, w3, w4⟩
end Go.Proofs.Ytcfcohnkkgickaa

namespace Go.Proofs.Ytcfcohnkkgickaa
open Go.ChangeShapes Go.WideShapes Go.ChangeAt Go.RowKit Go.Deep

theorem add_pos (x : Addr) (j : Nat) (h : j ≠ 0) : x.add j = ⟨x.block, x.off + j, none⟩ := by unfold Addr.add; rw [if_neg h]
theorem add_zero' (x : Addr) : x.add 0 = x := rfl

theorem open_rowsW {H : Type} {enc : TypeId × Value → H} {w : World} {base : Nat} {spare : Nat → Bool} {held : Bool} {ao : Option Addr} {n cap : Nat} {d : DataW H} {p : List MemPlace}
    (hsp : ∀ b, spare b = true) (h : DataW.Trod enc Try.prog w base spare held 72 (.slice ao n cap) d p) : ∃ R : Nat → Rw, RowsArg w ao n R ∧ n ≤ maxLen ∧ ∀ k, k < n → (Lit.int .i64 (R k).i).wf = true := by
  obtain ⟨fuel, hf⟩ := h
  rcases open_slice Try.underlying72 hf with ⟨hcs, _⟩ | ⟨a, len, c, m, n', D, Pl, hcs, _, hl, hm, hmm, _, hi⟩
  · simp [Value.cells] at hcs
    obtain ⟨rfl, rfl, rfl⟩ := hcs
    exact ⟨fun _ => ⟨0, 0, 0, 0, false⟩, .inl rfl, by unfold maxLen; omega, fun k hk => by omega⟩
  · simp [Value.cells] at hcs
    obtain ⟨rfl, rfl, rfl⟩ := hcs
    rw [hsp, if_pos rfl] at hmm
    have row : ∀ i, i < n → ∃ r : Rw, RowAt w a i r ∧ a.block < w.heap.size ∧ (Lit.int .i64 r.i).wf = true := fun i hin => by
      obtain ⟨cs', hc, ht⟩ := hi i (by omega)
      rw [cells_row] at hc
      obtain ⟨_, hcl, hat⟩ := World.cells?_some hc
      match cs', hcl with
      | [c0, c1, c2, c3, c4], _ =>
        obtain ⟨e0, e1, e2, e3, e4, rfl, rfl, rfl, rfl, rfl, _, wf0, _, _, _⟩ := trod_row ht
        have q0 := hat 0 (by omega)
        have q1 := hat 1 (by omega)
        have q2 := hat 2 (by omega)
        have q3 := hat 3 (by omega)
        have q4 := hat 4 (by omega)
        rw [add_zero'] at q0
        rw [add_pos _ _ (by decide)] at q1 q2 q3 q4
        refine ⟨⟨e0, e1, e2, e3, e4⟩, ⟨q0, q1, q2, q3, q4⟩, ?_, wf0⟩
        have hb := World.block_lt_of_cell? w _ q0
        rw [addr_block] at hb
        exact hb
    have ch : ∀ i, ∃ r : Rw, i < n → RowAt w a i r ∧ a.block < w.heap.size ∧ (Lit.int .i64 r.i).wf = true := fun i => by
      by_cases hin : i < n
      · obtain ⟨r, hr⟩ := row i hin
        exact ⟨r, fun _ => hr⟩
      · exact ⟨⟨0, 0, 0, 0, false⟩, fun h => absurd h hin⟩
    obtain ⟨R, hR⟩ := Classical.axiomOfChoice ch
    refine ⟨R, ?_, by omega, fun k hk => (hR k hk).2.2⟩
    by_cases h0 : n = 0
    · exact .inl h0
    · exact .inr ⟨a, rfl, (hR 0 (by omega)).2.1, fun k hk => (hR k hk).1⟩
theorem open_rows {H : Type} {enc : TypeId × Value → H} {w : World} {base : Nat} {spare : Nat → Bool} {held : Bool} {ao : Option Addr} {n cap : Nat} {d : DataW H} {p : List MemPlace}
    (hsp : ∀ b, spare b = true) (h : DataW.Trod enc Try.prog w base spare held 72 (.slice ao n cap) d p) : ∃ R : Nat → Rw, RowsArg w ao n R ∧ n ≤ maxLen := by
  obtain ⟨R, h1, h2, _⟩ := open_rowsW hsp h
  exact ⟨R, h1, h2⟩
end Go.Proofs.Ytcfcohnkkgickaa

namespace Go.Proofs.Ytcfcohnkkgickaa
open Go.ChangeShapes Go.WideShapes Go.ChangeAt Go.RowKit Go.Joins

theorem cells_blk : Try.prog.cellsOf 74 = 2 := by kernel_rfl

set_option maxRecDepth 100000 in
theorem open_blk {H : Type} {enc : TypeId × Value → H} {w : World} {base : Nat} {spare : Nat → Bool} {held : Bool} {r : Reach} {b0 : Nat} {v : Value} {d : DataW H} {p : List MemPlace}
    (hv : Value.okWide Try.prog w r b0 74 v) (h : DataW.Trod enc Try.prog w base spare held 74 v d p) (hsp : ∀ b, spare b = true) :
    ∃ (id : Int) (ao : Option Addr) (n cap : Nat) (R : Nat → Rw), v = .agg #[.int .i64 id, .slice ao n cap] ∧ (Lit.int .i64 id).wf = true ∧ RowsArg w ao n R ∧ n ≤ maxLen := by
  obtain ⟨c0, c1, y0, y1, m, rfl, rfl, rfl, hy0, hy1⟩ := open_agg2 Try.underlying74 (by kernel_rfl) cells_blk hv h
  obtain ⟨a, e0, rfl, wa⟩ := DataW.trod_int Try.underlying3 hy0
  simp at e0
  subst e0
  have hs : ∃ ao n cap, c1 = .slice ao n cap := by
    rcases Go.Deep.open_slice Try.underlying72 hy1 with ⟨hcs, _⟩ | ⟨x, len, c, _, _, _, _, hcs, _⟩
    · simp at hcs; exact ⟨_, _, _, hcs⟩
    · simp at hcs; exact ⟨_, _, _, hcs⟩
  obtain ⟨ao, n, cap, rfl⟩ := hs
  obtain ⟨R, hR, hn⟩ := open_rows (ao := ao) (n := n) (cap := cap) (d := y1.1) (p := y1.2) hsp ⟨m, hy1⟩
  exact ⟨a, ao, n, cap, R, rfl, wa, hR, hn⟩
end Go.Proofs.Ytcfcohnkkgickaa

namespace Go.Proofs.Ytcfcohnkkgickaa
open Go.ChangeShapes Go.WideShapes Go.ChangeAt Go.RowKit Go.Joins Go.Deep

theorem cellsR_rows : Try.prog.cellsOf 72 = 1 := by kernel_rfl

/-- The cells of a block that came in. -/
theorem trod_blk {H : Type} {enc : TypeId × Value → H} {w : World} {base : Nat} {spare : Nat → Bool} {held : Bool} {n : Nat} {c0 c1 : Value} {y : DataW H × List MemPlace} (hsp : ∀ b, spare b = true)
    (h : DataW.trod enc Try.prog w base spare held n 74 [c0, c1] = some y) :
    ∃ (id : Int) (rao : Option Addr) (rn rcap : Nat) (R : Nat → Rw), c0 = .int .i64 id ∧ c1 = .slice rao rn rcap ∧ RowsArg w rao rn R ∧ rn ≤ maxLen ∧ ∀ k, k < rn → (Lit.int .i64 (R k).i).wf = true := by
  obtain ⟨xs, m, _, hx, _, hlen, hg⟩ := DataW.trod_struct Try.underlying74 h
  match xs, hlen with
  | [y0, y1], _ =>
    have h0 : DataW.trod enc Try.prog w base spare held m 3 (([c0, c1].drop 0).take (Try.prog.cellsOf 3)) = some y0 := hg 0 _ rfl
    have h1 : DataW.trod enc Try.prog w base spare held m 72 (([c0, c1].drop 1).take (Try.prog.cellsOf 72)) = some y1 := hg 1 _ rfl
    simp only [cellsR_int, cellsR_rows, List.drop_zero, List.drop_succ_cons, List.take_succ_cons, List.take_zero] at h0 h1
    obtain ⟨a, e0, rfl, wa⟩ := DataW.trod_int Try.underlying3 h0
    simp only [List.cons.injEq, and_true] at e0
    have hs : ∃ ao n cap, c1 = .slice ao n cap := by
      rcases Go.Deep.open_slice Try.underlying72 h1 with ⟨hcs, _⟩ | ⟨x, len, c, _, _, _, _, hcs, _⟩
      · simp at hcs; exact ⟨_, _, _, hcs⟩
      · simp at hcs; exact ⟨_, _, _, hcs⟩
    obtain ⟨ao, n, cap, rfl⟩ := hs
    obtain ⟨R, hR, hn, hw⟩ := open_rowsW (ao := ao) (n := n) (cap := cap) (d := y1.1) (p := y1.2) hsp ⟨m, h1⟩
    exact ⟨a, ao, n, cap, R, e0, rfl, hR, hn, hw⟩

theorem open_blks {H : Type} {enc : TypeId × Value → H} {w : World} {base : Nat} {spare : Nat → Bool} {held : Bool} {ao : Option Addr} {n cap : Nat} {d : DataW H} {p : List MemPlace}
    (hsp : ∀ b, spare b = true) (h : DataW.Trod enc Try.prog w base spare held 22 (.slice ao n cap) d p) : ∃ B : Nat → Blk, BlksArg w ao n B ∧ n ≤ maxLen ∧ WfB n B := by
  obtain ⟨fuel, hf⟩ := h
  rcases open_slice Try.underlying22 hf with ⟨hcs, _⟩ | ⟨a, len, c, m, n', D, Pl, hcs, _, hl, hm, hmm, _, hi⟩
  · simp [Value.cells] at hcs
    obtain ⟨rfl, rfl, rfl⟩ := hcs
    exact ⟨fun _ => ⟨0, []⟩, .inl rfl, by unfold maxLen; omega, fun k hk => by omega⟩
  · simp [Value.cells] at hcs
    obtain ⟨rfl, rfl, rfl⟩ := hcs
    rw [hsp, if_pos rfl] at hmm
    have row : ∀ i, i < n → ∃ b : Blk, BlkAt w a i b ∧ a.block < w.heap.size ∧ ∀ j, j < b.rows.length → (Lit.int .i64 (Rn b.rows j).i).wf = true := fun i hin => by
      obtain ⟨cs', hc, ht⟩ := hi i (by omega)
      rw [cells_blk] at hc
      obtain ⟨_, hcl, hat⟩ := World.cells?_some hc
      match cs', hcl with
      | [c0, c1], _ =>
        obtain ⟨id, rao, rn, rcap, R, rfl, rfl, hR, hrn, hrw⟩ := trod_blk hsp ht
        have q0 := hat 0 (by omega)
        have q1 := hat 1 (by omega)
        rw [add_zero'] at q0
        rw [add_pos _ _ (by decide)] at q1
        refine ⟨⟨id, lst rn R⟩, ⟨rao, rn, rcap, R, q0, q1, hR, hrn, rfl⟩, ?_, fun j hj => by
          have hj' : j < rn := by simpa only [lst_len] using hj
          show (Lit.int .i64 (Rn (lst rn R) j).i).wf = true
          rw [Rn_lst hj']; exact hrw j hj'⟩
        have hb := World.block_lt_of_cell? w _ q0
        rw [addr_block] at hb
        exact hb
    have ch : ∀ i, ∃ b : Blk, i < n → BlkAt w a i b ∧ a.block < w.heap.size ∧ ∀ j, j < b.rows.length → (Lit.int .i64 (Rn b.rows j).i).wf = true := fun i => by
      by_cases hin : i < n
      · obtain ⟨r, hr⟩ := row i hin
        exact ⟨r, fun _ => hr⟩
      · exact ⟨⟨0, []⟩, fun h => absurd h hin⟩
    obtain ⟨B, hB⟩ := Classical.axiomOfChoice ch
    refine ⟨B, ?_, by omega, fun k hk => (hB k hk).2.2⟩
    by_cases h0 : n = 0
    · exact .inl h0
    · exact .inr ⟨a, rfl, (hB 0 (by omega)).2.1, fun k hk => (hB k hk).1⟩

theorem cells_tbl : Try.prog.cellsOf 24 = 2 := by kernel_rfl

set_option maxRecDepth 100000 in
theorem open_tbl {H : Type} {enc : TypeId × Value → H} {w : World} {base : Nat} {spare : Nat → Bool} {held : Bool} {r : Reach} {b0 : Nat} {v : Value} {d : DataW H} {p : List MemPlace}
    (hv : Value.okWide Try.prog w r b0 24 v) (h : DataW.Trod enc Try.prog w base spare held 24 v d p) (hsp : ∀ b, spare b = true) :
    ∃ (ver : Int) (ao : Option Addr) (n cap : Nat) (B : Nat → Blk), v = .agg #[.int .i64 ver, .slice ao n cap] ∧ (Lit.int .i64 ver).wf = true ∧ BlksArg w ao n B ∧ n ≤ maxLen ∧ WfB n B := by
  obtain ⟨c0, c1, y0, y1, m, rfl, rfl, rfl, hy0, hy1⟩ := open_agg2 Try.underlying24 (by kernel_rfl) cells_tbl hv h
  obtain ⟨a, e0, rfl, wa⟩ := DataW.trod_int Try.underlying3 hy0
  simp at e0
  subst e0
  have hs : ∃ ao n cap, c1 = .slice ao n cap := by
    rcases Go.Deep.open_slice Try.underlying22 hy1 with ⟨hcs, _⟩ | ⟨x, len, c, _, _, _, _, hcs, _⟩
    · simp at hcs; exact ⟨_, _, _, hcs⟩
    · simp at hcs; exact ⟨_, _, _, hcs⟩
  obtain ⟨ao, n, cap, rfl⟩ := hs
  obtain ⟨B, hB, hn, hw⟩ := open_blks (ao := ao) (n := n) (cap := cap) (d := y1.1) (p := y1.2) hsp ⟨m, hy1⟩
  exact ⟨a, ao, n, cap, B, rfl, wa, hB, hn, hw⟩
end Go.Proofs.Ytcfcohnkkgickaa
