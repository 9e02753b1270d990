/-
  Plain mathematics of reading a block in pieces; append of one new row. 
-/
import Derived.Test.YtndebdimjlfepaaDoorBkPlain
import Derived.Test.YtndebdimjlfepaaDoorPrSpec
import Derived.Test.YtndebdimjlfepaaDoorRwsApp
namespace Go.Proofs.YtndebdimjlfepaaDoor
open Go.RowKit Num

/-- A row read from a text. -/
def RdRow (l : List UInt8) (r : Rw) : Prop := PRow l r.i r.g r.y r.x r.nl true

theorem rdRow_fmt {r r' : Rw} (h : RdRow r'.fmt r) (hv : r'.ok = true) : r = r' := by
  obtain ⟨h1, h2, h3, h4, h5, _⟩ := PRow_unique h (.inl ⟨rfl, hv, rfl⟩)
  exact Rw.ext' h1 h2 h3 h4 h5

theorem pb_short {l p0 : List UInt8} {ps : List (List UInt8)} (hp : pieces 32 l = p0 :: ps) (h : p0.length < 2) : ∀ id n R, blkB id n R = true → l ≠ fmtB id n R := fun id n R hv he => by
  rw [he, pieces_fmtB hv] at hp
  simp only [List.cons.injEq] at hp
  obtain ⟨⟨i1, i2⟩, _, _⟩ := blkB_of hv
  rw [← hp.1] at h
  have h0 : (Lib.itoa id).length ≠ 0 := fun e => itoa_ne id (List.eq_nil_of_length_eq_zero e)
  simp only [List.length_cons] at h
  omega
theorem pb_many {l p0 : List UInt8} {ps : List (List UInt8)} (hp : pieces 32 l = p0 :: ps) (h : 6 < ps.length) : ∀ id n R, blkB id n R = true → l ≠ fmtB id n R := fun id n R hv he => by
  rw [he, pieces_fmtB hv] at hp
  simp only [List.cons.injEq] at hp
  obtain ⟨_, _, h6⟩ := blkB_of hv
  rw [← hp.2] at h
  simp at h
  omega
/-- A piece that is no row. -/
theorem pb_bad {l p0 : List UInt8} {ps : List (List UInt8)} (hp : pieces 32 l = p0 :: ps) {k : Nat} (hk : k < ps.length) (h : PRow ps[k] 0 0 0 0 false false) : ∀ id n R, blkB id n R = true → l ≠ fmtB id n R := fun id n R hv he => by
  rw [he, pieces_fmtB hv] at hp
  simp only [List.cons.injEq] at hp
  obtain ⟨_, ha, _⟩ := blkB_of hv
  have e : ps[k] = (R k).fmt := by
    have q := congrArg (fun l => l[k]?) hp.2
    have hk' : k < n := by have := congrArg List.length hp.2; simp at this; omega
    simp only [List.getElem?_map, List.getElem?_range hk', Option.map_some, List.getElem?_eq_getElem hk, Option.some.injEq] at q
    exact q.symm
  have hk' : k < n := by have := congrArg List.length hp.2; simp at this; omega
  rw [e] at h
  obtain ⟨_, _, _, _, _, h6⟩ := PRow_unique h (.inl ⟨rfl, areB_rows n ha k hk', rfl⟩)
  cases h6

/-- The block read is the one, or there is none. -/
theorem pb_no {l p0 : List UInt8} {ps : List (List UInt8)} (hp : pieces 32 l = p0 :: ps) {d : Int} (hd : NumAns (p0.drop 1) d) {L : List Rw} (hL : L.length = ps.length) (hr : ∀ k (hk : k < ps.length) (hk' : k < L.length), RdRow ps[k] L[k]) {R : Nat → Rw} (hR : ∀ k (hk : k < L.length), R k = L[k]) (hne : l ≠ fmtB d L.length R) :
    ∀ id n R', blkB id n R' = true → l ≠ fmtB id n R' := fun id n R' hv he => hne (by
  obtain ⟨⟨i1, i2⟩, ha, h6⟩ := blkB_of hv
  rw [he, pieces_fmtB hv] at hp
  simp only [List.cons.injEq] at hp
  obtain ⟨e0, eps⟩ := hp
  have en : L.length = n := by rw [hL, ← eps]; simp
  have ed : d = id := by
    rw [← e0] at hd
    exact numAns_itoa (by simpa using hd) (by omega) (by omega)
  have rows : ∀ k, k < n → R k = R' k := fun k hk => by
    have hk' : k < L.length := by omega
    have hk2 : k < ps.length := by omega
    have e : ps[k] = (R' k).fmt := by
      have q := congrArg (fun l => l[k]?) eps
      simp only [List.getElem?_map, List.getElem?_range hk, Option.map_some, List.getElem?_eq_getElem hk2, Option.some.injEq] at q
      exact q.symm
    have h1 := hr k hk2 hk'
    rw [e] at h1
    rw [hR k hk']
    exact rdRow_fmt h1 (areB_rows n ha k hk)
  rw [he, ed, en]
  have b1 : blkB id n R = blkB id n R' := by unfold blkB; rw [areB_congr n rows]
  unfold fmtB
  rw [b1, fmtRows_congr n rows])

/-- 'append(out, r)': the row lies in a new block of its own. -/
theorem wpList_append_row {ops : Array Oper} {rest : List Oper} {o : Oper} {a : Act} {Q : Exit → Act → World → Prop} {W w : World} (hgd : o.guard = none) (s x : Operand)
    (ho : o.op = .call { callee := .builtin .append, args := #[s, x], argTypes := #[37, 37] })
    (B : Nat) (v : Value) (l : List Rw) (r : Rw) (hs : a.eval s = v) (hown : OwnR w B v l) (cs : Array Value) (hcs : cs.toList = rc r) (c : Nat)
    (hx : a.eval x = .slice (some ⟨w.heap.size, 0, none⟩) 1 c) (hlen : (l.length + 1) * 40 ≤ 140737488355328) (hB : B ≤ w.heap.size) (hbel : Below B W w)
    (h : ∀ v' w', OwnR w' B v' (l ++ [r]) → Below B W w' → wpList Tryd.prog ops Q rest (a.put o.dst v') w') : wpList Tryd.prog ops Q (o :: rest) a (w.alloc (.cells cs 25)) := by
  refine wpList_append_rows hgd s x ho B v l [r] hs (World.ownsRow.alloc hown _) ⟨w.heap.size, 0, none⟩ 1 c rfl hx ?_ (by simpa using hlen) (by simp; omega) (hbel.alloc hB _) h
  intro j u hj
  have hadd : (⟨w.heap.size, 0, none⟩ : Addr).add j = ⟨w.heap.size, j, none⟩ := by unfold Addr.add; split <;> simp_all
  rw [hadd, cell_of_row _ w.heap.size j cs 25 (0, 0) (heap_alloc_new w _), ← hj]
  show cs[j]? = (rc r ++ [])[j]?
  rw [List.append_nil, ← hcs]
  simp
end Go.Proofs.YtndebdimjlfepaaDoor
