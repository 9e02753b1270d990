/-
  The walk over the model's ParseInterval.
-/
import Derived.Test.YtdfmidihghoilaaDoorRows
import Derived.Test.YtdfmidihghoilaaDoorIfSpec
import Derived.Test.YtdfmidihghoilaaDoorPfSpec
import Derived.Test.YtdfmidihghoilaaDoorKeep
import Derived.WalkKit
import Derived.WalkSpells
import Derived.WalkLawsBesides
import Derived.IntWalk
import Derived.Lib.Hide
import Derived.Lib.Strings
namespace Go.Proofs.YtdfmidihghoilaaDoor
open Go.RowKit Num

/-- What ParseInterval leaves. -/
def PIvPost (s : ByteArray) (w : World) (e : Ending) (w' : World) : Prop := (∃ (a b c d : Int) (ok : Bool), PIv s.data.toList a b c d ok ∧ e = .returned (.tuple #[.agg #[.int .i64 a, .int .i64 b, .int .i64 c, .int .i64 d], .bool ok])) ∧ Below w.heap.size w w'
theorem PIvPost.mk {s : ByteArray} {w w' : World} {a b c d : Int} {ok : Bool} (h : PIv s.data.toList a b c d ok) (hb : Below w.heap.size w w') : PIvPost s w (.returned (.tuple #[.agg #[.int .i64 a, .int .i64 b, .int .i64 c, .int .i64 d], .bool ok])) w' := ⟨⟨a, b, c, d, ok, h, rfl⟩, hb⟩

theorem PFans_rng {l : List UInt8} {n d : Int} {k : Bool} (h : PFans l n d k) : -999999999 ≤ n ∧ n ≤ 999999999 := by
  rcases h with ⟨_, h, _⟩ | ⟨_, rfl, _⟩
  · obtain ⟨⟨h1, h2, _⟩, _⟩ := frB_of h; exact ⟨h1, h2⟩
  · omega

theorem nonempty_of_lt {s : ByteArray} (h : 0 < s.size) : s.data.toList ≠ [] := by
  intro hz
  have hz2 : s.data.toList.length = s.size := by simp
  rw [hz] at hz2
  simp at hz2
  omega

theorem ip_nil : PIv [] 0 0 0 0 false := by
  refine .inr ⟨rfl, rfl, rfl, rfl, rfl, fun x y u v h heq => ?_⟩
  obtain ⟨p1, _⟩ := fmtI_cut (p := []) (q := []) (has := false) h (by rw [← heq]; exact ⟨by simp, .inr ⟨rfl, rfl, rfl⟩⟩)
  exact fmtF_ne (ivB_of h).1 p1.symm

theorem ip_yes {l : List UInt8} {a b c d : Int} (hl : l ≠ []) (he : l = fmtI a b c d) : PIv l a b c d true := by
  refine .inl ⟨rfl, ?_, he⟩
  cases h : ivB a b c d
  · exact absurd (by rw [he, fmtI_no h]) hl
  · rfl

/-- What stands for High: the text behind the second point, or Low again. -/
def HiAns (q : List UInt8) (has : Bool) (n d h g : Int) : Prop := (has = true ∧ ∃ x r k, q = x :: r ∧ PFans r h g k) ∨ ((has = false ∨ q = []) ∧ h = n ∧ g = d)

theorem ip_no {l p q : List UInt8} {has k : Bool} {n d h g : Int} (hc : CutOn 46 l p q has) (hp : PFans p n d k) (hh : HiAns q has n d h g) (hne : l ≠ fmtI n d h g) : PIv l 0 0 0 0 false := by
  refine .inr ⟨rfl, rfl, rfl, rfl, rfl, fun x y u v hv heq => hne ?_⟩
  rw [heq] at hc
  obtain ⟨p1, q1⟩ := fmtI_cut hv hc
  obtain ⟨v1, v2, _⟩ := ivB_of hv
  rw [p1] at hp
  obtain ⟨rfl, rfl, _⟩ := PFans_unique hp (.inl ⟨rfl, v1, rfl⟩)
  rcases q1 with ⟨rfl, rfl, h1⟩ | ⟨_, h1, r1⟩
  · rcases hh with ⟨h2, _⟩ | ⟨_, rfl, rfl⟩
    · rw [h1] at h2; cases h2
    · exact heq
  · rcases hh with ⟨_, x', r, k', e, hr⟩ | ⟨h2 | h2, _⟩
    · rw [r1] at e
      obtain ⟨_, e2⟩ := List.cons.inj e
      rw [← e2] at hr
      obtain ⟨rfl, rfl, _⟩ := PFans_unique hr (.inl ⟨rfl, v2, rfl⟩)
      exact heq
    · rw [h1] at h2; cases h2
    · rw [r1] at h2; cases h2

set_option maxRecDepth 8000 in
set_option maxHeartbeats 6400000 in
theorem spec_ip_a (s : ByteArray) (p q : List UInt8) (has : Bool) (w : World) (hs : s.size ≤ 1048576) (hc : CutOn 46 s.data.toList p q has) (hm : p.length ≤ s.size) (hx : s.extract 0 p.length = ⟨p.toArray⟩) (hne : ∀ j (h : j < s.size), j < p.length → s[j].toNat ≠ 46) (hend : p.length = s.size) (hno : has = false) :
    Calls Tryd.prog 9 #[.string s] w (PIvPost s w) := by
  have PA := Lib.hid (fun w => spec_pf ⟨p.toArray⟩ w (by show p.toArray.size ≤ _; simp; omega))
  have HC := Lib.hid hc
  have HX := Lib.hid hx
  have HN := Lib.hid hne
  have hsI : (s.size : Int) ≤ 1048576 := by omega
  obtain ⟨m, hmm⟩ : ∃ m, m = p.length := ⟨_, rfl⟩
  have hmI : (m : Int) ≤ (s.size : Int) := by omega
  have hm0 : m ≤ s.size := by omega
  rw [← hmm] at HX HN hend
  have HNI : Hid (∀ j (h : j < s.size), j < m → s[j].toNat ≠ 46) := HN.out
  have hu : decide ((m : Int) + 2 ≤ (s.size : Int)) = false := decide_eq_false (by omega)
  have HHI : Hid (∀ n d : Int, HiAns q has n d n d) := fun n d => .inr ⟨.inl hno, rfl, rfl⟩
  have HEND := Lib.hid hend
  clear hc hx hne hmm hm HN hend hno
  go_enter Tryd.func9, Tryd.ntmps9
  go_wp2_with fail
  have K0 := (Kept.start w).alloc4 (.int .i64 0) (.int .i64 0) (.int .i64 0) (.int .i64 0) 29 _ rfl
  go_loop [4] (fun k => ∃ j : Nat, j ≤ m ∧ k = .int .i64 j) (fun k => m - (intOf k).toNat)
  case atStart => exact ⟨0, Nat.zero_le _, rfl⟩
  case round =>
    obtain ⟨j, hj, rfl⟩ := hrel
    by_cases hlt : j < m
    · have hls : j < s.size := by omega
      have hlI : (j : Int) < (s.size : Int) := by omega
      have hb := HNI.out j hls hlt
      have q1 : ((s[j].toNat : Int) != 46) = true := bne_iff_ne.2 (by omega)
      have q2 : ((s[j].toNat : Int) == 46) = false := beq_eq_false_iff_ne.2 (by omega)
      have HBY := Lib.hid hb
      clear hb
      go_wp2
      go_round
      case rel => exact ⟨j + 1, by omega, by go_num⟩
      case measure => simp [intOf]; omega
    · obtain rfl : j = m := by omega
      have hsz : ¬ (j : Int) < (s.size : Int) := by have := HEND.out; omega
      have hsd : decide ((j : Int) < (s.size : Int)) = false := decide_eq_false hsz
      have hsn : ¬ j < s.size := by have := HEND.out; omega
      have HXo := HX.out
      have K1 := K0.alloc4 (.int .i64 0) (.int .i64 0) (.int .i64 0) (.int .i64 0) 29 (w.heap.size + 1) (by simp)
      go_wp2_with fail
      refine (PA.out _).mono ?_
      rintro r9 w2 ⟨⟨n, d, k9, hn, rfl⟩, hb⟩
      have NR := PFans_rng hn
      have HPF := Lib.hid (show PFans p n d k9 by simpa using hn)
      have K2 := K1.step hb
      clear hb K1 K0 hn HXo
      have K3a := Kept.set (p := []) K2 (.int .i64 n) (Nat.le_succ _) (by simp only [List.cons_append, List.nil_append, List.mem_cons, List.not_mem_nil, or_false]; rintro c9 (rfl | rfl | rfl | rfl | rfl | rfl | rfl) <;> simp <;> omega)
      have K3 := Kept.set (p := [(⟨w.heap.size + 1, 0, none⟩, .int .i64 n)]) K3a (.int .i64 d) (Nat.le_succ _) (by simp only [List.cons_append, List.nil_append, List.mem_cons, List.not_mem_nil, or_false]; rintro c9 (rfl | rfl | rfl | rfl | rfl | rfl | rfl) <;> simp <;> omega)
      have K4a := Kept.set (p := [(⟨w.heap.size + 1, 0, none⟩, .int .i64 n), (⟨w.heap.size + 1, 1, none⟩, .int .i64 d)]) K3 (.int .i64 n) (Nat.le_succ _) (by simp only [List.cons_append, List.nil_append, List.mem_cons, List.not_mem_nil, or_false]; rintro c9 (rfl | rfl | rfl | rfl | rfl | rfl | rfl) <;> simp <;> omega)
      have K4 := Kept.set (p := [(⟨w.heap.size + 1, 0, none⟩, .int .i64 n), (⟨w.heap.size + 1, 1, none⟩, .int .i64 d), (⟨w.heap.size + 1, 2, none⟩, .int .i64 n)]) K4a (.int .i64 d) (Nat.le_succ _) (by simp only [List.cons_append, List.nil_append, List.mem_cons, List.not_mem_nil, or_false]; rintro c9 (rfl | rfl | rfl | rfl | rfl | rfl | rfl) <;> simp <;> omega)
      have k0 := K2.get 0 rfl
      have k1 := K2.get 1 rfl
      have f0 := K2.fz 0 rfl
      have f1 := K2.fz 1 rfl
      have a0 := K3.get 0 rfl
      have a1 := K3.get 1 rfl
      have a2 := K3.get 2 rfl
      have a3 := K3.get 3 rfl
      have b2 := K3.fz 2 rfl
      have b3 := K3.fz 3 rfl
      have c0 := K4.get 0 rfl
      have c1 := K4.get 1 rfl
      have c2 := K4.get 2 rfl
      have c3 := K4.get 3 rfl
      have HI := Lib.hid (HHI.out n d)
      have HNO := Lib.hid (ip_no HC.out HPF.out HI.out)
      by_cases hS : s.data.toList = []
      · have t1 : s.toList = [] := by rw [Lib.toList_data]; exact hS
        have AN := Lib.hid (show PIv s.data.toList 0 0 0 0 false by rw [hS]; exact ip_nil)
        have HS2 := Lib.hid hS
        clear hS
        have r4 := K4.get 4 rfl
        have r5 := K4.get 5 rfl
        have r6 := K4.get 6 rfl
        have r7 := K4.get 7 rfl
        have g4 := K4.fz 4 rfl
        have g5 := K4.fz 5 rfl
        have g6 := K4.fz 6 rfl
        have g7 := K4.fz 7 rfl
        have z := K4.lt 4 rfl
        go_wp2
        exact bodyPost_ret (v := .tuple #[.agg #[.int .i64 0, .int .i64 0, .int .i64 0, .int .i64 0], .bool false]) (by simp [results, Tryd.results9, go_sem, r4, r5, r6, r7, z]) rfl (PIvPost.mk AN.out ((((K4.1.setCell (Nat.le_refl _) _).setCell (Nat.le_refl _) _).setCell (Nat.le_refl _) _).setCell (Nat.le_refl _) _))
      · have t1 : ¬ s.toList = [] := by rw [Lib.toList_data]; exact hS
        have t2 : s.toList.isEmpty = false := by rw [Lib.toList_data]; cases hz : s.data.toList with | nil => exact absurd hz hS | cons _ _ => rfl
        have t3 : (s.toList == []) = false := by rw [beq_eq_false_iff_ne]; exact t1
        have FF := Lib.hid (fun w => spec_if n d n d w ⟨by omega, by omega⟩ ⟨by omega, by omega⟩)
        have HYE := Lib.hid (fun hz => ip_yes (a := n) (b := d) (c := n) (d := d) hS hz)
        have HS2 := Lib.hid hS
        clear hS
        obtain ⟨fl, hfl⟩ : ∃ fl, fl = fmtI n d n d := ⟨_, rfl⟩
        rw [← hfl] at FF HYE HNO
        clear hfl
        go_wp2_with fail
        refine (FF.out _).mono ?_
        rintro r9 w4 ⟨rfl, hb⟩
        have K9 := K4.step hb
        clear hb K4 K2 K3a K3 K4a k0 k1 f0 f1 a0 a1 a2 a3 b2 b3 c0 c1 c2 c3
        have k0 := K9.get 0 rfl
        have k1 := K9.get 1 rfl
        have k2 := K9.get 2 rfl
        have k3 := K9.get 3 rfl
        by_cases hq9 : s.data.toList = fl
        · have qq : (fl == s.toList) = true := by rw [eq_bytes]; exact decide_eq_true hq9
          have AN := Lib.hid (HYE.out hq9)
          clear hq9
          have r4 := K9.get 4 rfl
          have r5 := K9.get 5 rfl
          have r6 := K9.get 6 rfl
          have r7 := K9.get 7 rfl
          have g4 := K9.fz 4 rfl
          have g5 := K9.fz 5 rfl
          have g6 := K9.fz 6 rfl
          have g7 := K9.fz 7 rfl
          have z := K9.lt 4 rfl
          go_wp2
          exact bodyPost_ret (v := .tuple #[.agg #[.int .i64 n, .int .i64 d, .int .i64 n, .int .i64 d], .bool true]) (by simp [results, Tryd.results9, go_sem, r4, r5, r6, r7, z]) rfl (PIvPost.mk AN.out ((((K9.1.setCell (Nat.le_refl _) _).setCell (Nat.le_refl _) _).setCell (Nat.le_refl _) _).setCell (Nat.le_refl _) _))
        · have qq : (fl == s.toList) = false := by rw [eq_bytes]; exact decide_eq_false hq9
          have AN := Lib.hid (HNO.out hq9)
          clear hq9
          have r4 := K9.get 4 rfl
          have r5 := K9.get 5 rfl
          have r6 := K9.get 6 rfl
          have r7 := K9.get 7 rfl
          have g4 := K9.fz 4 rfl
          have g5 := K9.fz 5 rfl
          have g6 := K9.fz 6 rfl
          have g7 := K9.fz 7 rfl
          have z := K9.lt 4 rfl
          go_wp2
          exact bodyPost_ret (v := .tuple #[.agg #[.int .i64 0, .int .i64 0, .int .i64 0, .int .i64 0], .bool false]) (by simp [results, Tryd.results9, go_sem, r4, r5, r6, r7, z]) rfl (PIvPost.mk AN.out ((((K9.1.setCell (Nat.le_refl _) _).setCell (Nat.le_refl _) _).setCell (Nat.le_refl _) _).setCell (Nat.le_refl _) _))

set_option maxRecDepth 8000 in
set_option maxHeartbeats 6400000 in
theorem spec_ip_b (s : ByteArray) (p q : List UInt8) (has : Bool) (w : World) (hs : s.size ≤ 1048576) (hc : CutOn 46 s.data.toList p q has) (hm : p.length ≤ s.size) (hx : s.extract 0 p.length = ⟨p.toArray⟩) (hne : ∀ j (h : j < s.size), j < p.length → s[j].toNat ≠ 46) (hend : p.length + 1 = s.size) (hat : ∀ h : p.length < s.size, s[p.length].toNat = 46) (hno : q = []) :
    Calls Tryd.prog 9 #[.string s] w (PIvPost s w) := by
  have PA := Lib.hid (fun w => spec_pf ⟨p.toArray⟩ w (by show p.toArray.size ≤ _; simp; omega))
  have HC := Lib.hid hc
  have HX := Lib.hid hx
  have HN := Lib.hid hne
  have hsI : (s.size : Int) ≤ 1048576 := by omega
  obtain ⟨m, hmm⟩ : ∃ m, m = p.length := ⟨_, rfl⟩
  have hmI : (m : Int) ≤ (s.size : Int) := by omega
  have hm0 : m ≤ s.size := by omega
  rw [← hmm] at HX HN hend hat
  have HNI : Hid (∀ j (h : j < s.size), j < m → s[j].toNat ≠ 46) := HN.out
  have hu : decide ((m : Int) + 2 ≤ (s.size : Int)) = false := decide_eq_false (by omega)
  have hltm : m < s.size := by omega
  have hb46 := hat hltm
  have qat : ((s[m].toNat : Int) != 46) = false := by rw [hb46]; rfl
  have qat2 : ((s[m].toNat : Int) == 46) = true := by rw [hb46]; rfl
  have HAT := Lib.hid hb46
  have HHI : Hid (∀ n d : Int, HiAns q has n d n d) := fun n d => .inr ⟨.inr hno, rfl, rfl⟩
  clear hc hx hne hmm hm HN hend hno hat hb46
  go_enter Tryd.func9, Tryd.ntmps9
  go_wp2_with fail
  have K0 := (Kept.start w).alloc4 (.int .i64 0) (.int .i64 0) (.int .i64 0) (.int .i64 0) 29 _ rfl
  go_loop [4] (fun k => ∃ j : Nat, j ≤ m ∧ k = .int .i64 j) (fun k => m - (intOf k).toNat)
  case atStart => exact ⟨0, Nat.zero_le _, rfl⟩
  case round =>
    obtain ⟨j, hj, rfl⟩ := hrel
    by_cases hlt : j < m
    · have hls : j < s.size := by omega
      have hlI : (j : Int) < (s.size : Int) := by omega
      have hb := HNI.out j hls hlt
      have q1 : ((s[j].toNat : Int) != 46) = true := bne_iff_ne.2 (by omega)
      have q2 : ((s[j].toNat : Int) == 46) = false := beq_eq_false_iff_ne.2 (by omega)
      have HBY := Lib.hid hb
      clear hb
      go_wp2
      go_round
      case rel => exact ⟨j + 1, by omega, by go_num⟩
      case measure => simp [intOf]; omega
    · obtain rfl : j = m := by omega
      have hlI : (j : Int) < (s.size : Int) := by omega
      have HXo := HX.out
      have K1 := K0.alloc4 (.int .i64 0) (.int .i64 0) (.int .i64 0) (.int .i64 0) 29 (w.heap.size + 1) (by simp)
      go_wp2_with fail
      refine (PA.out _).mono ?_
      rintro r9 w2 ⟨⟨n, d, k9, hn, rfl⟩, hb⟩
      have NR := PFans_rng hn
      have HPF := Lib.hid (show PFans p n d k9 by simpa using hn)
      have K2 := K1.step hb
      clear hb K1 K0 hn HXo
      have K3a := Kept.set (p := []) K2 (.int .i64 n) (Nat.le_succ _) (by simp only [List.cons_append, List.nil_append, List.mem_cons, List.not_mem_nil, or_false]; rintro c9 (rfl | rfl | rfl | rfl | rfl | rfl | rfl) <;> simp <;> omega)
      have K3 := Kept.set (p := [(⟨w.heap.size + 1, 0, none⟩, .int .i64 n)]) K3a (.int .i64 d) (Nat.le_succ _) (by simp only [List.cons_append, List.nil_append, List.mem_cons, List.not_mem_nil, or_false]; rintro c9 (rfl | rfl | rfl | rfl | rfl | rfl | rfl) <;> simp <;> omega)
      have K4a := Kept.set (p := [(⟨w.heap.size + 1, 0, none⟩, .int .i64 n), (⟨w.heap.size + 1, 1, none⟩, .int .i64 d)]) K3 (.int .i64 n) (Nat.le_succ _) (by simp only [List.cons_append, List.nil_append, List.mem_cons, List.not_mem_nil, or_false]; rintro c9 (rfl | rfl | rfl | rfl | rfl | rfl | rfl) <;> simp <;> omega)
      have K4 := Kept.set (p := [(⟨w.heap.size + 1, 0, none⟩, .int .i64 n), (⟨w.heap.size + 1, 1, none⟩, .int .i64 d), (⟨w.heap.size + 1, 2, none⟩, .int .i64 n)]) K4a (.int .i64 d) (Nat.le_succ _) (by simp only [List.cons_append, List.nil_append, List.mem_cons, List.not_mem_nil, or_false]; rintro c9 (rfl | rfl | rfl | rfl | rfl | rfl | rfl) <;> simp <;> omega)
      have k0 := K2.get 0 rfl
      have k1 := K2.get 1 rfl
      have f0 := K2.fz 0 rfl
      have f1 := K2.fz 1 rfl
      have a0 := K3.get 0 rfl
      have a1 := K3.get 1 rfl
      have a2 := K3.get 2 rfl
      have a3 := K3.get 3 rfl
      have b2 := K3.fz 2 rfl
      have b3 := K3.fz 3 rfl
      have c0 := K4.get 0 rfl
      have c1 := K4.get 1 rfl
      have c2 := K4.get 2 rfl
      have c3 := K4.get 3 rfl
      have HI := Lib.hid (HHI.out n d)
      have HNO := Lib.hid (ip_no HC.out HPF.out HI.out)
      have hS : s.data.toList ≠ [] := nonempty_of_lt (by omega : 0 < s.size)
      have t1 : ¬ s.toList = [] := by rw [Lib.toList_data]; exact hS
      have t2 : s.toList.isEmpty = false := by rw [Lib.toList_data]; cases hz : s.data.toList with | nil => exact absurd hz hS | cons _ _ => rfl
      have t3 : (s.toList == []) = false := by rw [beq_eq_false_iff_ne]; exact t1
      have FF := Lib.hid (fun w => spec_if n d n d w ⟨by omega, by omega⟩ ⟨by omega, by omega⟩)
      have HYE := Lib.hid (fun hz => ip_yes (a := n) (b := d) (c := n) (d := d) hS hz)
      have HS2 := Lib.hid hS
      clear hS
      obtain ⟨fl, hfl⟩ : ∃ fl, fl = fmtI n d n d := ⟨_, rfl⟩
      rw [← hfl] at FF HYE HNO
      clear hfl
      go_wp2_with fail
      refine (FF.out _).mono ?_
      rintro r9 w4 ⟨rfl, hb⟩
      have K9 := K4.step hb
      clear hb K4 K2 K3a K3 K4a k0 k1 f0 f1 a0 a1 a2 a3 b2 b3 c0 c1 c2 c3
      have k0 := K9.get 0 rfl
      have k1 := K9.get 1 rfl
      have k2 := K9.get 2 rfl
      have k3 := K9.get 3 rfl
      by_cases hq9 : s.data.toList = fl
      · have qq : (fl == s.toList) = true := by rw [eq_bytes]; exact decide_eq_true hq9
        have AN := Lib.hid (HYE.out hq9)
        clear hq9
        have r4 := K9.get 4 rfl
        have r5 := K9.get 5 rfl
        have r6 := K9.get 6 rfl
        have r7 := K9.get 7 rfl
        have g4 := K9.fz 4 rfl
        have g5 := K9.fz 5 rfl
        have g6 := K9.fz 6 rfl
        have g7 := K9.fz 7 rfl
        have z := K9.lt 4 rfl
        go_wp2
        exact bodyPost_ret (v := .tuple #[.agg #[.int .i64 n, .int .i64 d, .int .i64 n, .int .i64 d], .bool true]) (by simp [results, Tryd.results9, go_sem, r4, r5, r6, r7, z]) rfl (PIvPost.mk AN.out ((((K9.1.setCell (Nat.le_refl _) _).setCell (Nat.le_refl _) _).setCell (Nat.le_refl _) _).setCell (Nat.le_refl _) _))
      · have qq : (fl == s.toList) = false := by rw [eq_bytes]; exact decide_eq_false hq9
        have AN := Lib.hid (HNO.out hq9)
        clear hq9
        have r4 := K9.get 4 rfl
        have r5 := K9.get 5 rfl
        have r6 := K9.get 6 rfl
        have r7 := K9.get 7 rfl
        have g4 := K9.fz 4 rfl
        have g5 := K9.fz 5 rfl
        have g6 := K9.fz 6 rfl
        have g7 := K9.fz 7 rfl
        have z := K9.lt 4 rfl
        go_wp2
        exact bodyPost_ret (v := .tuple #[.agg #[.int .i64 0, .int .i64 0, .int .i64 0, .int .i64 0], .bool false]) (by simp [results, Tryd.results9, go_sem, r4, r5, r6, r7, z]) rfl (PIvPost.mk AN.out ((((K9.1.setCell (Nat.le_refl _) _).setCell (Nat.le_refl _) _).setCell (Nat.le_refl _) _).setCell (Nat.le_refl _) _))

set_option maxRecDepth 8000 in
set_option maxHeartbeats 6400000 in
theorem spec_ip_c (s : ByteArray) (p q : List UInt8) (has : Bool) (w : World) (hs : s.size ≤ 1048576) (hc : CutOn 46 s.data.toList p q has) (hm : p.length ≤ s.size) (hx : s.extract 0 p.length = ⟨p.toArray⟩) (hne : ∀ j (h : j < s.size), j < p.length → s[j].toNat ≠ 46) (r : List UInt8) (x9 : UInt8) (hq : q = x9 :: r) (hhas : has = true) (hend : p.length + 2 ≤ s.size) (hat : ∀ h : p.length < s.size, s[p.length].toNat = 46) (hx2 : s.extract (p.length + 2) s.size = ⟨r.toArray⟩) (hrl : r.length ≤ 1048576) :
    Calls Tryd.prog 9 #[.string s] w (PIvPost s w) := by
  have PA := Lib.hid (fun w => spec_pf ⟨p.toArray⟩ w (by show p.toArray.size ≤ _; simp; omega))
  have HC := Lib.hid hc
  have HX := Lib.hid hx
  have HN := Lib.hid hne
  have hsI : (s.size : Int) ≤ 1048576 := by omega
  obtain ⟨m, hmm⟩ : ∃ m, m = p.length := ⟨_, rfl⟩
  have hmI : (m : Int) ≤ (s.size : Int) := by omega
  have hm0 : m ≤ s.size := by omega
  rw [← hmm] at HX HN hend hat hx2
  have HNI : Hid (∀ j (h : j < s.size), j < m → s[j].toNat ≠ 46) := HN.out
  have PB := Lib.hid (fun w => spec_pf ⟨r.toArray⟩ w (by show r.toArray.size ≤ _; simp; omega))
  have HX2 := Lib.hid hx2
  have hex2 : (m : Int) + 2 ≤ (s.size : Int) := by omega
  have hltm : m < s.size := by omega
  have hb46 := hat hltm
  have qat : ((s[m].toNat : Int) != 46) = false := by rw [hb46]; rfl
  have qat2 : ((s[m].toNat : Int) == 46) = true := by rw [hb46]; rfl
  have HAT := Lib.hid hb46
  have HHI : Hid (∀ (n d h g : Int) (k : Bool), PFans r h g k → HiAns q has n d h g) := fun n d h g k hd2 => .inl ⟨hhas, x9, r, _, hq, hd2⟩
  clear hc hx hne hmm hm HN hend hq hhas hat hx2 hrl hb46
  go_enter Tryd.func9, Tryd.ntmps9
  go_wp2_with fail
  have K0 := (Kept.start w).alloc4 (.int .i64 0) (.int .i64 0) (.int .i64 0) (.int .i64 0) 29 _ rfl
  go_loop [4] (fun k => ∃ j : Nat, j ≤ m ∧ k = .int .i64 j) (fun k => m - (intOf k).toNat)
  case atStart => exact ⟨0, Nat.zero_le _, rfl⟩
  case round =>
    obtain ⟨j, hj, rfl⟩ := hrel
    by_cases hlt : j < m
    · have hls : j < s.size := by omega
      have hlI : (j : Int) < (s.size : Int) := by omega
      have hb := HNI.out j hls hlt
      have q1 : ((s[j].toNat : Int) != 46) = true := bne_iff_ne.2 (by omega)
      have q2 : ((s[j].toNat : Int) == 46) = false := beq_eq_false_iff_ne.2 (by omega)
      have HBY := Lib.hid hb
      clear hb
      go_wp2
      go_round
      case rel => exact ⟨j + 1, by omega, by go_num⟩
      case measure => simp [intOf]; omega
    · obtain rfl : j = m := by omega
      have hlI : (j : Int) < (s.size : Int) := by omega
      have HXo := HX.out
      have K1 := K0.alloc4 (.int .i64 0) (.int .i64 0) (.int .i64 0) (.int .i64 0) 29 (w.heap.size + 1) (by simp)
      go_wp2_with fail
      refine (PA.out _).mono ?_
      rintro r9 w2 ⟨⟨n, d, k9, hn, rfl⟩, hb⟩
      have NR := PFans_rng hn
      have HPF := Lib.hid (show PFans p n d k9 by simpa using hn)
      have K2 := K1.step hb
      clear hb K1 K0 hn HXo
      have K3a := Kept.set (p := []) K2 (.int .i64 n) (Nat.le_succ _) (by simp only [List.cons_append, List.nil_append, List.mem_cons, List.not_mem_nil, or_false]; rintro c9 (rfl | rfl | rfl | rfl | rfl | rfl | rfl) <;> simp <;> omega)
      have K3 := Kept.set (p := [(⟨w.heap.size + 1, 0, none⟩, .int .i64 n)]) K3a (.int .i64 d) (Nat.le_succ _) (by simp only [List.cons_append, List.nil_append, List.mem_cons, List.not_mem_nil, or_false]; rintro c9 (rfl | rfl | rfl | rfl | rfl | rfl | rfl) <;> simp <;> omega)
      have K4a := Kept.set (p := [(⟨w.heap.size + 1, 0, none⟩, .int .i64 n), (⟨w.heap.size + 1, 1, none⟩, .int .i64 d)]) K3 (.int .i64 n) (Nat.le_succ _) (by simp only [List.cons_append, List.nil_append, List.mem_cons, List.not_mem_nil, or_false]; rintro c9 (rfl | rfl | rfl | rfl | rfl | rfl | rfl) <;> simp <;> omega)
      have K4 := Kept.set (p := [(⟨w.heap.size + 1, 0, none⟩, .int .i64 n), (⟨w.heap.size + 1, 1, none⟩, .int .i64 d), (⟨w.heap.size + 1, 2, none⟩, .int .i64 n)]) K4a (.int .i64 d) (Nat.le_succ _) (by simp only [List.cons_append, List.nil_append, List.mem_cons, List.not_mem_nil, or_false]; rintro c9 (rfl | rfl | rfl | rfl | rfl | rfl | rfl) <;> simp <;> omega)
      have k0 := K2.get 0 rfl
      have k1 := K2.get 1 rfl
      have f0 := K2.fz 0 rfl
      have f1 := K2.fz 1 rfl
      have a0 := K3.get 0 rfl
      have a1 := K3.get 1 rfl
      have a2 := K3.get 2 rfl
      have a3 := K3.get 3 rfl
      have b2 := K3.fz 2 rfl
      have b3 := K3.fz 3 rfl
      have c0 := K4.get 0 rfl
      have c1 := K4.get 1 rfl
      have c2 := K4.get 2 rfl
      have c3 := K4.get 3 rfl
      have HX2o := HX2.out
      go_wp2_with fail
      refine (PB.out _).mono ?_
      rintro r9 w3 ⟨⟨h, g, k8, hn2, rfl⟩, hb⟩
      have NR2 := PFans_rng hn2
      have HP2 := Lib.hid (show PFans r h g k8 by simpa using hn2)
      have K5 : Kept w w3 [(⟨w.heap.size + 1, 0, none⟩, .int .i64 n), (⟨w.heap.size + 1, 1, none⟩, .int .i64 d), (⟨w.heap.size + 1, 2, none⟩, .int .i64 n), (⟨w.heap.size + 1, 3, none⟩, .int .i64 d), (⟨w.heap.size, 0, none⟩, .int .i64 0), (⟨w.heap.size, 1, none⟩, .int .i64 0), (⟨w.heap.size, 2, none⟩, .int .i64 0), (⟨w.heap.size, 3, none⟩, .int .i64 0)] := K4.step hb
      clear hb K4 hn2 HX2o K2 K3a K3 K4a k0 k1 f0 f1 a0 a1 a2 a3 b2 b3 c0 c1 c2 c3
      have K6a := Kept.set (p := [(⟨w.heap.size + 1, 0, none⟩, .int .i64 n), (⟨w.heap.size + 1, 1, none⟩, .int .i64 d)]) K5 (.int .i64 h) (Nat.le_succ _) (by simp only [List.cons_append, List.nil_append, List.mem_cons, List.not_mem_nil, or_false]; rintro c9 (rfl | rfl | rfl | rfl | rfl | rfl | rfl) <;> simp <;> omega)
      have K6 := Kept.set (p := [(⟨w.heap.size + 1, 0, none⟩, .int .i64 n), (⟨w.heap.size + 1, 1, none⟩, .int .i64 d), (⟨w.heap.size + 1, 2, none⟩, .int .i64 h)]) K6a (.int .i64 g) (Nat.le_succ _) (by simp only [List.cons_append, List.nil_append, List.mem_cons, List.not_mem_nil, or_false]; rintro c9 (rfl | rfl | rfl | rfl | rfl | rfl | rfl) <;> simp <;> omega)
      have k2 := K5.get 2 rfl
      have k3 := K5.get 3 rfl
      have f2 := K5.fz 2 rfl
      have f3 := K5.fz 3 rfl
      have c0 := K6.get 0 rfl
      have c1 := K6.get 1 rfl
      have c2 := K6.get 2 rfl
      have c3 := K6.get 3 rfl
      have HI := Lib.hid (HHI.out n d h g k8 HP2.out)
      have HNO := Lib.hid (ip_no HC.out HPF.out HI.out)
      have hS : s.data.toList ≠ [] := nonempty_of_lt (by omega : 0 < s.size)
      have t1 : ¬ s.toList = [] := by rw [Lib.toList_data]; exact hS
      have t2 : s.toList.isEmpty = false := by rw [Lib.toList_data]; cases hz : s.data.toList with | nil => exact absurd hz hS | cons _ _ => rfl
      have t3 : (s.toList == []) = false := by rw [beq_eq_false_iff_ne]; exact t1
      have FF := Lib.hid (fun w => spec_if n d h g w ⟨by omega, by omega⟩ ⟨by omega, by omega⟩)
      have HYE := Lib.hid (fun hz => ip_yes (a := n) (b := d) (c := h) (d := g) hS hz)
      have HS2 := Lib.hid hS
      clear hS
      obtain ⟨fl, hfl⟩ : ∃ fl, fl = fmtI n d h g := ⟨_, rfl⟩
      rw [← hfl] at FF HYE HNO
      clear hfl
      go_wp2_with fail
      refine (FF.out _).mono ?_
      rintro r9 w4 ⟨rfl, hb⟩
      have K9 := K6.step hb
      clear hb K6 K5 K6a k2 k3 f2 f3 c0 c1 c2 c3
      have k0 := K9.get 0 rfl
      have k1 := K9.get 1 rfl
      have k2 := K9.get 2 rfl
      have k3 := K9.get 3 rfl
      by_cases hq9 : s.data.toList = fl
      · have qq : (fl == s.toList) = true := by rw [eq_bytes]; exact decide_eq_true hq9
        have AN := Lib.hid (HYE.out hq9)
        clear hq9
        have r4 := K9.get 4 rfl
        have r5 := K9.get 5 rfl
        have r6 := K9.get 6 rfl
        have r7 := K9.get 7 rfl
        have g4 := K9.fz 4 rfl
        have g5 := K9.fz 5 rfl
        have g6 := K9.fz 6 rfl
        have g7 := K9.fz 7 rfl
        have z := K9.lt 4 rfl
        go_wp2
        exact bodyPost_ret (v := .tuple #[.agg #[.int .i64 n, .int .i64 d, .int .i64 h, .int .i64 g], .bool true]) (by simp [results, Tryd.results9, go_sem, r4, r5, r6, r7, z]) rfl (PIvPost.mk AN.out ((((K9.1.setCell (Nat.le_refl _) _).setCell (Nat.le_refl _) _).setCell (Nat.le_refl _) _).setCell (Nat.le_refl _) _))
      · have qq : (fl == s.toList) = false := by rw [eq_bytes]; exact decide_eq_false hq9
        have AN := Lib.hid (HNO.out hq9)
        clear hq9
        have r4 := K9.get 4 rfl
        have r5 := K9.get 5 rfl
        have r6 := K9.get 6 rfl
        have r7 := K9.get 7 rfl
        have g4 := K9.fz 4 rfl
        have g5 := K9.fz 5 rfl
        have g6 := K9.fz 6 rfl
        have g7 := K9.fz 7 rfl
        have z := K9.lt 4 rfl
        go_wp2
        exact bodyPost_ret (v := .tuple #[.agg #[.int .i64 0, .int .i64 0, .int .i64 0, .int .i64 0], .bool false]) (by simp [results, Tryd.results9, go_sem, r4, r5, r6, r7, z]) rfl (PIvPost.mk AN.out ((((K9.1.setCell (Nat.le_refl _) _).setCell (Nat.le_refl _) _).setCell (Nat.le_refl _) _).setCell (Nat.le_refl _) _))

theorem byte_at (s : ByteArray) (j : Nat) (h : j < s.size) : s.data.toList[j]'(by simpa using h) = s[j] := rfl

theorem spec_ip (s : ByteArray) (w : World) (hs : s.size ≤ 1048576) :
    Calls Tryd.prog 9 #[.string s] w (PIvPost s w) := by
  have hl : s.data.toList.length = s.size := by simp
  obtain ⟨p, q, has, hc⟩ := cut_any 46 s.data.toList
  have hc0 := hc
  have hpre : ∃ t, s.data.toList = p ++ t := by
    obtain ⟨_, ⟨_, he⟩ | ⟨_, he, _⟩⟩ := hc
    · exact ⟨_, he⟩
    · exact ⟨[], by rw [he]; simp⟩
  obtain ⟨t, ht⟩ := hpre
  have hm : p.length ≤ s.size := by rw [← hl, ht]; simp
  have hx : s.extract 0 p.length = ⟨p.toArray⟩ := by rw [Lib.extract_eq, ht]; simp
  have hne : ∀ j (h : j < s.size), j < p.length → s[j].toNat ≠ 46 := by
    intro j h hj e
    have h1 : s.data.toList[j]'(by simpa using h) = p[j] := by simp only [ht]; exact List.getElem_append_left hj
    rw [byte_at s j h] at h1
    have h2 : s[j] = 46 := UInt8.toNat_inj.1 e
    rw [h2] at h1
    exact hc0.1 (by rw [h1]; exact List.getElem_mem hj)
  obtain ⟨_, ⟨hhas, he⟩ | ⟨hhas, he, hq⟩⟩ := hc
  · have hat : ∀ h : p.length < s.size, s[p.length].toNat = 46 := by
      intro h
      have h1 : s.data.toList[p.length]'(by simpa using h) = 46 := by simp only [he]; simp
      rw [byte_at s _ h] at h1
      rw [h1]; rfl
    have hlen : p.length + (q.length + 1) = s.size := by rw [← hl, he]; simp
    cases q with
    | nil => exact spec_ip_b s p [] has w hs hc0 hm hx hne (by simpa using hlen) hat rfl
    | cons x9 r =>
      have hx2 : s.extract (p.length + 2) s.size = ⟨r.toArray⟩ := by
        rw [Lib.extract_eq, he]
        have e : (p ++ 46 :: x9 :: r).drop (p.length + 2) = r := by
          rw [show p ++ 46 :: x9 :: r = (p ++ [46, x9]) ++ r by simp, List.drop_left' (by simp)]
        rw [e, List.take_of_length_le (by simp at hlen; omega)]
      exact spec_ip_c s p (x9 :: r) has w hs hc0 hm hx hne r x9 rfl hhas (by simp at hlen; omega) hat hx2 (by simp at hlen; omega)
  · exact spec_ip_a s p q has w hs hc0 hm hx hne (by rw [← hl, he]) hhas
end Go.Proofs.YtdfmidihghoilaaDoor
