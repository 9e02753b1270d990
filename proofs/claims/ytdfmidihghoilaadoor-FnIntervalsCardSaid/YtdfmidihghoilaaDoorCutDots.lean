/-
  Plain mathematics of a text that is cut at two points, and of an interval's format so cut. No program is named here.
-/
import Derived.Test.YtdfmidihghoilaaDoorPlain
import Derived.Test.YtdfmidihghoilaaDoorIpSpec
import Derived.Lib.IndexMore
namespace Go.Proofs.YtdfmidihghoilaaDoor
open Go Num

theorem index_dots (b : List UInt8) : ∀ a : List UInt8, (46 : UInt8) ∉ a → Lib.index (a ++ 46 :: 46 :: b) [46, 46] = (a.length : Int)
  | [], _ => by unfold Lib.index; simp [List.isPrefixOf]
  | x :: a, h => by
    simp only [List.mem_cons, not_or] at h
    have h0 : ([46, 46] : List UInt8).isPrefixOf (x :: (a ++ 46 :: 46 :: b)) = false := by simp [List.isPrefixOf]; exact fun e => absurd e h.1
    have ih := index_dots b a h.2
    rw [List.cons_append]
    unfold Lib.index
    rw [h0, ih]
    have : ((a.length : Int) == -1) = false := by rw [beq_eq_false_iff_ne]; omega
    rw [this]
    simp

theorem index_nodots : ∀ a : List UInt8, (46 : UInt8) ∉ a → Lib.index a [46, 46] = -1
  | [], _ => rfl
  | x :: a, h => by
    simp only [List.mem_cons, not_or] at h
    have h0 : ([46, 46] : List UInt8).isPrefixOf (x :: a) = false := by simp [List.isPrefixOf]; exact fun e => absurd e h.1
    have ih := index_nodots a h.2
    unfold Lib.index
    rw [h0, ih]
    rfl

theorem cut_dots_app (a b : List UInt8) (h : (46 : UInt8) ∉ a) : Lib.cut (a ++ 46 :: 46 :: b) [46, 46] = (a, b, true) := by
  unfold Lib.cut
  rw [index_dots b a h, if_pos (by omega)]
  have e : ((a.length : Int)).toNat = a.length := by omega
  have e2 : a ++ 46 :: 46 :: b = (a ++ [46, 46]) ++ b := by simp
  simp only [e, List.length_cons, List.length_nil]
  rw [List.take_left' rfl, e2, List.drop_left' (by simp)]

theorem cut_dots_none (a : List UInt8) (h : (46 : UInt8) ∉ a) : Lib.cut a [46, 46] = (a, [], false) := by
  unfold Lib.cut
  rw [index_nodots a h]
  rfl

theorem dd_len (l t : List UInt8) : (Lib.cut l t).1.length ≤ l.length ∧ (Lib.cut l t).2.1.length ≤ l.length := by
  unfold Lib.cut
  split
  · simp only [List.length_take, List.length_drop]; omega
  · simp

theorem dd_cut {l p q : List UInt8} {has : Bool} {x y u v : Int} (hc : Lib.cut l [46, 46] = (p, q, has)) (hv : ivB x y u v = true) (he : l = fmtI x y u v) :
    (x = u ∧ y = v ∧ p = fmtF x y ∧ has = false) ∨ (p = fmtF x y ∧ q = fmtF u v ∧ has = true) := by
  by_cases h : x = u ∧ y = v
  · obtain ⟨rfl, rfl⟩ := h
    rw [fmtI_one hv] at he
    rw [he, cut_dots_none _ (fmtF_dot x y)] at hc
    simp only [Prod.mk.injEq] at hc
    exact .inl ⟨rfl, rfl, hc.1.symm, hc.2.2.symm⟩
  · rw [fmtI_two hv h] at he
    rw [he, cut_dots_app _ _ (fmtF_dot x y)] at hc
    simp only [Prod.mk.injEq] at hc
    exact .inr ⟨hc.1.symm, hc.2.1.symm, hc.2.2.symm⟩

theorem dd_no1 {l p q : List UInt8} {has : Bool} {n d : Int} (hc : Lib.cut l [46, 46] = (p, q, has)) (hp : PFans p n d false) : PIv l 0 0 0 0 false := by
  refine .inr ⟨rfl, rfl, rfl, rfl, rfl, fun x y u v hv he => ?_⟩
  obtain ⟨v1, v2, _⟩ := ivB_of hv
  have e : p = fmtF x y := by rcases dd_cut hc hv he with ⟨_, _, e, _⟩ | ⟨e, _⟩ <;> exact e
  rw [e] at hp
  obtain ⟨_, _, h⟩ := PFans_unique hp (.inl ⟨rfl, v1, rfl⟩)
  cases h

theorem dd_no2 {l p q : List UInt8} {k : Bool} {n d : Int} (hc : Lib.cut l [46, 46] = (p, q, false)) (hp : PFans p n d k) (hne : l ≠ fmtI n d n d) : PIv l 0 0 0 0 false := by
  refine .inr ⟨rfl, rfl, rfl, rfl, rfl, fun x y u v hv he => ?_⟩
  obtain ⟨v1, v2, _⟩ := ivB_of hv
  rcases dd_cut hc hv he with ⟨rfl, rfl, e, _⟩ | ⟨_, _, h⟩
  · rw [e] at hp
    obtain ⟨rfl, rfl, _⟩ := PFans_unique hp (.inl ⟨rfl, v1, rfl⟩)
    exact hne he
  · cases h

theorem dd_no3 {l p q : List UInt8} {h g : Int} (hc : Lib.cut l [46, 46] = (p, q, true)) (hq : PFans q h g false) : PIv l 0 0 0 0 false := by
  refine .inr ⟨rfl, rfl, rfl, rfl, rfl, fun x y u v hv he => ?_⟩
  obtain ⟨v1, v2, _⟩ := ivB_of hv
  rcases dd_cut hc hv he with ⟨_, _, _, h⟩ | ⟨_, e, _⟩
  · cases h
  · rw [e] at hq
    obtain ⟨_, _, h⟩ := PFans_unique hq (.inl ⟨rfl, v2, rfl⟩)
    cases h

theorem dd_no4 {l p q : List UInt8} {k j : Bool} {n d h g : Int} (hc : Lib.cut l [46, 46] = (p, q, true)) (hp : PFans p n d k) (hq : PFans q h g j) (hne : l ≠ fmtI n d h g) : PIv l 0 0 0 0 false := by
  refine .inr ⟨rfl, rfl, rfl, rfl, rfl, fun x y u v hv he => ?_⟩
  obtain ⟨v1, v2, _⟩ := ivB_of hv
  rcases dd_cut hc hv he with ⟨_, _, _, h⟩ | ⟨e1, e2, _⟩
  · cases h
  · rw [e1] at hp
    rw [e2] at hq
    obtain ⟨rfl, rfl, _⟩ := PFans_unique hp (.inl ⟨rfl, v1, rfl⟩)
    obtain ⟨rfl, rfl, _⟩ := PFans_unique hq (.inl ⟨rfl, v2, rfl⟩)
    exact hne he

theorem dd_ne {l p q : List UInt8} {has : Bool} {n d : Int} (hc : Lib.cut l [46, 46] = (p, q, has)) (hp : PFans p n d true) : l ≠ [] := by
  intro h
  rw [h, cut_dots_none [] (by simp)] at hc
  simp only [Prod.mk.injEq] at hc
  rcases hp with ⟨_, h1, h2⟩ | ⟨h1, _⟩
  · exact fmtF_ne h1 (by rw [← h2, ← hc.1])
  · cases h1
end Go.Proofs.YtdfmidihghoilaaDoor
