/-
  Plain mathematics of reading a row in pieces. No program is named here.
-/
import Derived.Test.YtndebdimjlfepaaDoorRfSpec
namespace Go.Proofs.YtndebdimjlfepaaDoor
open Go Num

/-- What l4Num makes of a text. -/
def NumAns (l : List UInt8) (n : Int) : Prop := (∃ m, PIans l m true ∧ n = m) ∨ ((∀ m, ¬ PIok l m) ∧ n = -1000)

theorem numAns_itoa {n m : Int} (h : NumAns (Lib.itoa n) m) (h1 : -99 ≤ n) (h2 : n ≤ 99) : m = n := by
  have ok := PIok_small h1 h2
  rcases h with ⟨k, hk, rfl⟩ | ⟨h, _⟩
  · exact (PIans_unique hk (.inl ⟨rfl, ok⟩)).1
  · exact absurd ok (h n)

theorem numAns_rng {l : List UInt8} {n : Int} (h : NumAns l n) : -999999999 ≤ n ∧ n ≤ 999999999 := by
  rcases h with ⟨k, ⟨_, h1, h2, _⟩ | ⟨h, _⟩, rfl⟩ | ⟨_, rfl⟩
  · exact ⟨h1, h2⟩
  · cases h
  · omega

theorem pieces_mem_len (c : UInt8) : ∀ (l p : List UInt8), p ∈ pieces c l → p.length ≤ l.length
  | [], p, h => by simp [pieces] at h; subst h; simp
  | x :: l, p, h => by
    rw [pieces] at h
    split at h
    · rcases List.mem_cons.1 h with rfl | h
      · simp
      · have := pieces_mem_len c l p h; simp only [List.length_cons]; omega
    · split at h
      · next he => have := pieces_len c l; rw [he] at this; simp at this
      · next q r he =>
        rcases List.mem_cons.1 h with rfl | h
        · have := pieces_mem_len c l q (by rw [he]; simp); simp only [List.length_cons]; omega
        · have := pieces_mem_len c l p (by rw [he]; simp [h]); simp only [List.length_cons]; omega

theorem row_not2 {l : List UInt8} (h : (pieces 58 l).length ≠ 2) : PRow l 0 0 0 0 false false :=
  PRow_no fun i g y x nl hv he => h (by rw [he, pieces_fmtR hv]; rfl)
theorem row_not3 {l h0 h1 : List UInt8} (hp : pieces 58 l = [h0, h1]) (h : (pieces 44 h1).length ≠ 3) : PRow l 0 0 0 0 false false :=
  PRow_no fun i g y x nl hv he => h (by
    rw [he, pieces_fmtR hv] at hp
    simp only [List.cons.injEq, and_true] at hp
    rw [← hp.2, pieces_tailR]; rfl)
theorem row_ne {l h0 h1 : List UInt8} (hp : pieces 58 l = [h0, h1]) : l ≠ [] := by
  intro h
  rw [h] at hp
  simp [pieces] at hp

/-- What the pieces of a row's format are. -/
theorem row_parts {l h0 h1 l0 l1 l2 : List UInt8} (hp : pieces 58 l = [h0, h1]) (hq : pieces 44 h1 = [l0, l1, l2]) {i g y x : Int} {nl : Bool} (hv : rowB i g y x nl = true) (he : l = fmtR i g y x nl) :
    h0 = Lib.itoa i ∧ l0 = Lib.itoa g ∧ l1 = Lib.itoa y ∧ l2 = xT x nl := by
  rw [he, pieces_fmtR hv] at hp
  simp only [List.cons.injEq, and_true] at hp
  rw [← hp.2, pieces_tailR] at hq
  simp only [List.cons.injEq, and_true] at hq
  exact ⟨hp.1.symm, hq.1.symm, hq.2.1.symm, hq.2.2.symm⟩

theorem row_null {l h0 h1 l0 l1 : List UInt8} {n0 n1 n2 : Int} (hp : pieces 58 l = [h0, h1]) (hq : pieces 44 h1 = [l0, l1, nullW]) (a0 : NumAns h0 n0) (a1 : NumAns l0 n1) (a2 : NumAns l1 n2) (hne : l ≠ fmtR n0 n1 n2 0 true) : PRow l 0 0 0 0 false false :=
  PRow_no fun i g y x nl hv he => hne (by
    obtain ⟨b1, b2, b3, b4, b5⟩ := rowB_of hv
    obtain ⟨e0, e1, e2, e3⟩ := row_parts hp hq hv he
    rw [e0] at a0
    rw [e1] at a1
    rw [e2] at a2
    obtain rfl := numAns_itoa a0 (by omega) (by omega)
    obtain rfl := numAns_itoa a1 (by omega) (by omega)
    obtain rfl := numAns_itoa a2 (by omega) (by omega)
    cases nl
    · exact absurd e3.symm (by unfold xT; simpa using itoa_null x)
    · rw [he, b5 rfl])

theorem row_num {l h0 h1 l0 l1 l2 : List UInt8} {n0 n1 n2 n3 : Int} (hp : pieces 58 l = [h0, h1]) (hq : pieces 44 h1 = [l0, l1, l2]) (hn : l2 ≠ nullW) (a0 : NumAns h0 n0) (a1 : NumAns l0 n1) (a2 : NumAns l1 n2) (a3 : NumAns l2 n3) (hne : l ≠ fmtR n0 n1 n2 n3 false) : PRow l 0 0 0 0 false false :=
  PRow_no fun i g y x nl hv he => hne (by
    obtain ⟨b1, b2, b3, b4, b5⟩ := rowB_of hv
    obtain ⟨e0, e1, e2, e3⟩ := row_parts hp hq hv he
    rw [e0] at a0
    rw [e1] at a1
    rw [e2] at a2
    rw [e3] at a3 hn
    obtain rfl := numAns_itoa a0 (by omega) (by omega)
    obtain rfl := numAns_itoa a1 (by omega) (by omega)
    obtain rfl := numAns_itoa a2 (by omega) (by omega)
    cases nl
    · obtain rfl := numAns_itoa (show NumAns (Lib.itoa x) n3 from by simpa [xT] using a3) (by omega) (by omega)
      exact he
    · exact absurd rfl hn)
end Go.Proofs.YtndebdimjlfepaaDoor
