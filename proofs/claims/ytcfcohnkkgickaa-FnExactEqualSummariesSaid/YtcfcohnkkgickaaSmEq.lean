/-
  The walks over slices.Equal at ints and over the model's and the project's EqualSummaries.
-/
import Derived.Test.YtcfcohnkkgickaaRows
import Derived.Test.YtcfcohnkkgickaaKeep
import Derived.Test.YtcfcohnkkgickaaSmPlain
import Derived.Test.YtcfcohnkkgickaaIntLaw
import Derived.Test.YtcfcohnkkgickaaAl7
import Derived.Deep.QuietTactic
import Derived.BigQuiet
namespace Go.Proofs.Ytcfcohnkkgickaa
open Go.RowKit Num

theorem take_more {l r : List Int} {k : Nat} (h : l.take k = r.take k) (hl : k < l.length) (hr : k < r.length) (e : l[k] = r[k]) : l.take (k + 1) = r.take (k + 1) := by
  rw [← List.take_append_getElem hl, ← List.take_append_getElem hr, h, e]
theorem take_diff {l r : List Int} {k : Nat} (hl : k < l.length) (hr : k < r.length) (e : ¬ l[k] = r[k]) : ¬ l = r := fun h => e (by subst h; rfl)

set_option maxRecDepth 8000 in
set_option maxHeartbeats 6400000 in
theorem ints_equal (ao bo : Option Addr) (n m c c9 : Nat) (l r : List Int) (w : World) (hl : l.length = n) (hr : r.length = m) (hn : n ≤ 1099511627776) (hm : m ≤ 1099511627776) (hV : IntsVal w ao l) (hV' : IntsVal w bo r) :
    Calls Try.prog 125 #[.slice ao n c, .slice bo m c9] w fun e w' => e = .returned (.bool (decide (l = r))) ∧ Below w.heap.size w w' := by
  have HG := Lib.hid hV
  have HH := Lib.hid hV'
  have HL := Lib.hid hl
  have HR := Lib.hid hr
  clear hV hV' hl hr
  have hnI : (n : Int) ≤ 1099511627776 := by omega
  have hmI : (m : Int) ≤ 1099511627776 := by omega
  by_cases hnm : n = m
  · subst hnm
    have q : ((n : Int) != (n : Int)) = false := bne_self_eq_false _
    go_enter Try.func125, Try.ntmps125
    go_wp2_with fail
    go_loopw [13] (fun iv wr => ∃ k : Nat, k ≤ n ∧ iv = .int .i64 k ∧ Hid (l.take k = r.take k) ∧ Hid (Below w.heap.size w wr)) (fun iv _ => n - (intOf iv).toNat)
    case atStart => exact ⟨0, Nat.zero_le _, rfl, (by simp : l.take 0 = r.take 0), Below.refl _ _⟩
    case round =>
      obtain ⟨k, hk, rfl, HA, HK⟩ := hrel
      by_cases hlt : k < n
      · have hkI : (k : Int) < (n : Int) := by omega
        obtain ⟨g, rfl, hg, hRg⟩ := (HG.out.below HK.out).head (by rw [HL.out]; omega)
        obtain ⟨g', rfl, hg', hRg'⟩ := (HH.out.below HK.out).head (by rw [HR.out]; omega)
        have c0 := hRg k (by rw [HL.out]; exact hlt)
        have c1 := hRg' k (by rw [HR.out]; exact hlt)
        obtain ⟨x, hx⟩ : ∃ x, x = l[k]'(by rw [HL.out]; exact hlt) := ⟨_, rfl⟩
        obtain ⟨y, hy⟩ : ∃ y, y = r[k]'(by rw [HR.out]; exact hlt) := ⟨_, rfl⟩
        rw [← hx] at c0
        rw [← hy] at c1
        have HX := Lib.hid hx
        have HY := Lib.hid hy
        clear hRg hRg' hx hy
        by_cases hxy : x = y
        · have q : (x != y) = false := by rw [hxy]; exact bne_self_eq_false y
          have HN := Lib.hid (take_more HA.out (by rw [HL.out]; exact hlt) (by rw [HR.out]; exact hlt) (by rw [← HX.out, ← HY.out]; exact hxy))
          clear hxy
          go_wp2_with fail
          go_quiet (fail)
          go_wp2
          go_roundw
          case rel => exact ⟨k + 1, by omega, by go_num, HN.out, below_drewN HK.out _⟩
          case measure => simp [intOf]; omega
        · have q : (x != y) = true := bne_iff_ne.2 hxy
          have AN := Lib.hid (decide_eq_false (take_diff (by rw [HL.out]; exact hlt) (by rw [HR.out]; exact hlt) (by rw [← HX.out, ← HY.out]; exact hxy) : ¬ l = r))
          clear hxy
          go_wp2_with fail
          go_quiet (fail)
          go_wp2
          go_ret
          exact ⟨by rw [AN.out]; rfl, below_drewN HK.out _⟩
      · obtain rfl : k = n := by omega
        have hsd : decide ((k : Int) < (k : Int)) = false := decide_eq_false (by omega)
        have AN := Lib.hid (decide_eq_true (show l = r from by have h := HA.out; rw [show l.take k = l from by rw [← HL.out, List.take_length], show r.take k = r from by rw [← HR.out, List.take_length]] at h; exact h))
        go_wp2
        go_ret
        exact ⟨by rw [AN.out]; rfl, HK.out⟩
  · have q : ((n : Int) != (m : Int)) = true := bne_iff_ne.2 (by omega)
    have AN := Lib.hid (decide_eq_false (show ¬ l = r from fun h => hnm (by rw [← HL.out, ← HR.out, h])))
    clear hnm
    go_enter Try.func125, Try.ntmps125
    go_wp2
    go_ret
    exact ⟨by rw [AN.out]; rfl, Below.refl _ _⟩

/-- What EqualSummaries answers. -/
def EqSmPost (s s' : Sm) (w : World) (e : Ending) (w' : World) : Prop := (∃ v : Bool, (v = true ↔ s = s') ∧ e = .returned (.bool v)) ∧ Below w.heap.size w w'
theorem EqSmPost.yes {s s' : Sm} {w w' : World} (h : s = s') (hb : Below w.heap.size w w') : EqSmPost s s' w (.returned (.bool true)) w' := ⟨⟨true, ⟨fun _ => h, fun _ => rfl⟩, rfl⟩, hb⟩
theorem EqSmPost.no {s s' : Sm} {w w' : World} (h : ¬ s = s') (hb : Below w.heap.size w w') : EqSmPost s s' w (.returned (.bool false)) w' := ⟨⟨false, ⟨(fun e => by cases e), fun k => absurd k h⟩, rfl⟩, hb⟩
theorem eqSm_iff {s s' : Sm} {v u : Bool} (h : v = true ↔ s = s') (h' : u = true ↔ s = s') : v = u := by
  cases v <;> cases u <;> simp_all

set_option maxRecDepth 8000 in
set_option maxHeartbeats 6400000 in
theorem spec_eqS (b c u mn mx sm : Int) (ao : Option Addr) (n cap : Nat) (l : List Int) (b' c' u' mn' mx' sm' : Int) (bo : Option Addr) (m cap9 : Nat) (r : List Int) (w : World) (hl : l.length = n) (hr : r.length = m) (hn : n ≤ 1099511627776) (hm : m ≤ 1099511627776) (hV : IntsVal w ao l) (hV' : IntsVal w bo r) :
    Calls Try.prog 72 #[.agg #[.int .i64 b, .int .i64 c, .int .i64 u, .int .i64 mn, .int .i64 mx, .int .i64 sm, .slice ao n cap], .agg #[.int .i64 b', .int .i64 c', .int .i64 u', .int .i64 mn', .int .i64 mx', .int .i64 sm', .slice bo m cap9]] w (EqSmPost ⟨b, c, u, mn, mx, sm, l⟩ ⟨b', c', u', mn', mx', sm', r⟩ w) := by
  have HG := Lib.hid hV
  have HH := Lib.hid hV'
  have HL := Lib.hid hl
  have HR := Lib.hid hr
  clear hV hV' hl hr
  have hnI : (n : Int) ≤ 1099511627776 := by omega
  have hmI : (m : Int) ≤ 1099511627776 := by omega
  by_cases hb : b = b'
  · skip
    have qb : (b != b') = false := by rw [hb]; exact bne_self_eq_false _
    have Hb := Lib.hid hb
    clear hb
    by_cases hc : c = c'
    · skip
      have qc : (c != c') = false := by rw [hc]; exact bne_self_eq_false _
      have Hc := Lib.hid hc
      clear hc
      by_cases hu : u = u'
      · skip
        have qu : (u != u') = false := by rw [hu]; exact bne_self_eq_false _
        have Hu := Lib.hid hu
        clear hu
        by_cases hmn : mn = mn'
        · skip
          have qmn : (mn != mn') = false := by rw [hmn]; exact bne_self_eq_false _
          have Hmn := Lib.hid hmn
          clear hmn
          by_cases hmx : mx = mx'
          · skip
            have qmx : (mx != mx') = false := by rw [hmx]; exact bne_self_eq_false _
            have Hmx := Lib.hid hmx
            clear hmx
            by_cases hsm : sm = sm'
            · skip
              have qsm : (sm != sm') = false := by rw [hsm]; exact bne_self_eq_false _
              have Hsm := Lib.hid hsm
              clear hsm
              by_cases hnm : n = m
              · skip
                subst hnm
                have q : ((n : Int) != (n : Int)) = false := bne_self_eq_false _
                go_enter Try.func72, Try.ntmps72
                go_wp2_with fail
                have K0 := ((Kept.start w).alloc7 (.int .i64 b) (.int .i64 c) (.int .i64 u) (.int .i64 mn) (.int .i64 mx) (.int .i64 sm) (.slice ao n cap) 77 _ rfl).alloc7 (.int .i64 b') (.int .i64 c') (.int .i64 u') (.int .i64 mn') (.int .i64 mx') (.int .i64 sm') (.slice bo n cap9) 77 (w.heap.size + 1) (by simp)
                have HK0 := Lib.hid K0
                clear K0
                go_loopw [5] (fun iv wr => ∃ k : Nat, k ≤ n ∧ iv = .int .i64 k ∧ Hid (l.take k = r.take k) ∧ Hid (Kept w wr [(⟨w.heap.size + 1, 0, none⟩, .int .i64 b'), (⟨w.heap.size + 1, 1, none⟩, .int .i64 c'), (⟨w.heap.size + 1, 2, none⟩, .int .i64 u'), (⟨w.heap.size + 1, 3, none⟩, .int .i64 mn'), (⟨w.heap.size + 1, 4, none⟩, .int .i64 mx'), (⟨w.heap.size + 1, 5, none⟩, .int .i64 sm'), (⟨w.heap.size + 1, 6, none⟩, .slice bo n cap9), (⟨w.heap.size, 0, none⟩, .int .i64 b), (⟨w.heap.size, 1, none⟩, .int .i64 c), (⟨w.heap.size, 2, none⟩, .int .i64 u), (⟨w.heap.size, 3, none⟩, .int .i64 mn), (⟨w.heap.size, 4, none⟩, .int .i64 mx), (⟨w.heap.size, 5, none⟩, .int .i64 sm), (⟨w.heap.size, 6, none⟩, .slice ao n cap)])) (fun iv _ => n - (intOf iv).toNat)
                case atStart => exact ⟨0, Nat.zero_le _, rfl, (by simp : l.take 0 = r.take 0), HK0.out⟩
                case round =>
                  obtain ⟨k, hk, rfl, HA, HK⟩ := hrel
                  clear HK0
                  have y0 := HK.out.get 6 rfl
                  have y1 := HK.out.get 13 rfl
                  by_cases hlt : k < n
                  · have hkI : (k : Int) < (n : Int) := by omega
                    obtain ⟨g, rfl, hg, hRg⟩ := (HG.out.below HK.out.1).head (by rw [HL.out]; omega)
                    obtain ⟨g', rfl, hg', hRg'⟩ := (HH.out.below HK.out.1).head (by rw [HR.out]; omega)
                    have c0 := hRg k (by rw [HL.out]; exact hlt)
                    have c1 := hRg' k (by rw [HR.out]; exact hlt)
                    obtain ⟨x, hx⟩ : ∃ x, x = l[k]'(by rw [HL.out]; exact hlt) := ⟨_, rfl⟩
                    obtain ⟨y, hy⟩ : ∃ y, y = r[k]'(by rw [HR.out]; exact hlt) := ⟨_, rfl⟩
                    rw [← hx] at c0
                    rw [← hy] at c1
                    have HX := Lib.hid hx
                    have HY := Lib.hid hy
                    clear hRg hRg' hx hy
                    by_cases hxy : x = y
                    · have q : (x != y) = false := by rw [hxy]; exact bne_self_eq_false y
                      have HN := Lib.hid (take_more HA.out (by rw [HL.out]; exact hlt) (by rw [HR.out]; exact hlt) (by rw [← HX.out, ← HY.out]; exact hxy))
                      clear hxy
                      go_wp2_with fail
                      go_quiet (fail)
                      go_wp2
                      go_roundw
                      case rel => exact ⟨k + 1, by omega, by go_num, HN.out, HK.out.step (below_drewN (Below.refl _ _) _)⟩
                      case measure => simp [intOf]; omega
                    · have q : (x != y) = true := bne_iff_ne.2 hxy
                      have NO := Lib.hid (show ¬ ((⟨b, c, u, mn, mx, sm, l⟩ : Sm) = ⟨b', c', u', mn', mx', sm', r⟩) from fun e => (take_diff (by rw [HL.out]; exact hlt) (by rw [HR.out]; exact hlt) (by rw [← HX.out, ← HY.out]; exact hxy) : ¬ l = r) (by injection e))
                      clear hxy
                      go_wp2_with fail
                      go_quiet (fail)
                      go_wp2
                      go_ret
                      exact EqSmPost.no NO.out (below_drewN HK.out.1 _)
                  · obtain rfl : k = n := by omega
                    have hsd : decide ((k : Int) < (k : Int)) = false := decide_eq_false (by omega)
                    have hlr : l = r := by have h := HA.out; rw [show l.take k = l from by rw [← HL.out, List.take_length], show r.take k = r from by rw [← HR.out, List.take_length]] at h; exact h
                    have YES := Lib.hid (show (⟨b, c, u, mn, mx, sm, l⟩ : Sm) = ⟨b', c', u', mn', mx', sm', r⟩ from (by rw [Hb.out, Hc.out, Hu.out, Hmn.out, Hmx.out, Hsm.out, hlr]))
                    clear hlr
                    go_wp2
                    go_ret
                    exact EqSmPost.yes YES.out HK.out.1
              · skip
                have q : ((n : Int) != (m : Int)) = true := bne_iff_ne.2 (by omega)
                have NO := Lib.hid (show ¬ ((⟨b, c, u, mn, mx, sm, l⟩ : Sm) = ⟨b', c', u', mn', mx', sm', r⟩) from fun e => hnm (by injection e with _ _ _ _ _ _ h; rw [← HL.out, ← HR.out, h]))
                clear hnm
                go_enter Try.func72, Try.ntmps72
                go_wp2_with fail
                have K0 := ((Kept.start w).alloc7 (.int .i64 b) (.int .i64 c) (.int .i64 u) (.int .i64 mn) (.int .i64 mx) (.int .i64 sm) (.slice ao n cap) 77 _ rfl).alloc7 (.int .i64 b') (.int .i64 c') (.int .i64 u') (.int .i64 mn') (.int .i64 mx') (.int .i64 sm') (.slice bo m cap9) 77 (w.heap.size + 1) (by simp)
                go_wp2
                go_ret
                exact EqSmPost.no NO.out K0.1
            · skip
              have qsm : (sm != sm') = true := bne_iff_ne.2 hsm
              have NO := Lib.hid (show ¬ ((⟨b, c, u, mn, mx, sm, l⟩ : Sm) = ⟨b', c', u', mn', mx', sm', r⟩) from fun e => hsm (by injection e))
              clear hsm
              go_enter Try.func72, Try.ntmps72
              go_wp2_with fail
              have K0 := ((Kept.start w).alloc7 (.int .i64 b) (.int .i64 c) (.int .i64 u) (.int .i64 mn) (.int .i64 mx) (.int .i64 sm) (.slice ao n cap) 77 _ rfl).alloc7 (.int .i64 b') (.int .i64 c') (.int .i64 u') (.int .i64 mn') (.int .i64 mx') (.int .i64 sm') (.slice bo m cap9) 77 (w.heap.size + 1) (by simp)
              go_wp2
              go_ret
              exact EqSmPost.no NO.out K0.1
          · skip
            have qmx : (mx != mx') = true := bne_iff_ne.2 hmx
            have NO := Lib.hid (show ¬ ((⟨b, c, u, mn, mx, sm, l⟩ : Sm) = ⟨b', c', u', mn', mx', sm', r⟩) from fun e => hmx (by injection e))
            clear hmx
            go_enter Try.func72, Try.ntmps72
            go_wp2_with fail
            have K0 := ((Kept.start w).alloc7 (.int .i64 b) (.int .i64 c) (.int .i64 u) (.int .i64 mn) (.int .i64 mx) (.int .i64 sm) (.slice ao n cap) 77 _ rfl).alloc7 (.int .i64 b') (.int .i64 c') (.int .i64 u') (.int .i64 mn') (.int .i64 mx') (.int .i64 sm') (.slice bo m cap9) 77 (w.heap.size + 1) (by simp)
            go_wp2
            go_ret
            exact EqSmPost.no NO.out K0.1
        · skip
          have qmn : (mn != mn') = true := bne_iff_ne.2 hmn
          have NO := Lib.hid (show ¬ ((⟨b, c, u, mn, mx, sm, l⟩ : Sm) = ⟨b', c', u', mn', mx', sm', r⟩) from fun e => hmn (by injection e))
          clear hmn
          go_enter Try.func72, Try.ntmps72
          go_wp2_with fail
          have K0 := ((Kept.start w).alloc7 (.int .i64 b) (.int .i64 c) (.int .i64 u) (.int .i64 mn) (.int .i64 mx) (.int .i64 sm) (.slice ao n cap) 77 _ rfl).alloc7 (.int .i64 b') (.int .i64 c') (.int .i64 u') (.int .i64 mn') (.int .i64 mx') (.int .i64 sm') (.slice bo m cap9) 77 (w.heap.size + 1) (by simp)
          go_wp2
          go_ret
          exact EqSmPost.no NO.out K0.1
      · skip
        have qu : (u != u') = true := bne_iff_ne.2 hu
        have NO := Lib.hid (show ¬ ((⟨b, c, u, mn, mx, sm, l⟩ : Sm) = ⟨b', c', u', mn', mx', sm', r⟩) from fun e => hu (by injection e))
        clear hu
        go_enter Try.func72, Try.ntmps72
        go_wp2_with fail
        have K0 := ((Kept.start w).alloc7 (.int .i64 b) (.int .i64 c) (.int .i64 u) (.int .i64 mn) (.int .i64 mx) (.int .i64 sm) (.slice ao n cap) 77 _ rfl).alloc7 (.int .i64 b') (.int .i64 c') (.int .i64 u') (.int .i64 mn') (.int .i64 mx') (.int .i64 sm') (.slice bo m cap9) 77 (w.heap.size + 1) (by simp)
        go_wp2
        go_ret
        exact EqSmPost.no NO.out K0.1
    · skip
      have qc : (c != c') = true := bne_iff_ne.2 hc
      have NO := Lib.hid (show ¬ ((⟨b, c, u, mn, mx, sm, l⟩ : Sm) = ⟨b', c', u', mn', mx', sm', r⟩) from fun e => hc (by injection e))
      clear hc
      go_enter Try.func72, Try.ntmps72
      go_wp2_with fail
      have K0 := ((Kept.start w).alloc7 (.int .i64 b) (.int .i64 c) (.int .i64 u) (.int .i64 mn) (.int .i64 mx) (.int .i64 sm) (.slice ao n cap) 77 _ rfl).alloc7 (.int .i64 b') (.int .i64 c') (.int .i64 u') (.int .i64 mn') (.int .i64 mx') (.int .i64 sm') (.slice bo m cap9) 77 (w.heap.size + 1) (by simp)
      go_wp2
      go_ret
      exact EqSmPost.no NO.out K0.1
  · skip
    have qb : (b != b') = true := bne_iff_ne.2 hb
    have NO := Lib.hid (show ¬ ((⟨b, c, u, mn, mx, sm, l⟩ : Sm) = ⟨b', c', u', mn', mx', sm', r⟩) from fun e => hb (by injection e))
    clear hb
    go_enter Try.func72, Try.ntmps72
    go_wp2_with fail
    have K0 := ((Kept.start w).alloc7 (.int .i64 b) (.int .i64 c) (.int .i64 u) (.int .i64 mn) (.int .i64 mx) (.int .i64 sm) (.slice ao n cap) 77 _ rfl).alloc7 (.int .i64 b') (.int .i64 c') (.int .i64 u') (.int .i64 mn') (.int .i64 mx') (.int .i64 sm') (.slice bo m cap9) 77 (w.heap.size + 1) (by simp)
    go_wp2
    go_ret
    exact EqSmPost.no NO.out K0.1

set_option maxRecDepth 8000 in
set_option maxHeartbeats 6400000 in
theorem impl_eqS (b c u mn mx sm : Int) (ao : Option Addr) (n cap : Nat) (l : List Int) (b' c' u' mn' mx' sm' : Int) (bo : Option Addr) (m cap9 : Nat) (r : List Int) (w : World) (hl : l.length = n) (hr : r.length = m) (hn : n ≤ 1099511627776) (hm : m ≤ 1099511627776) (hV : IntsVal w ao l) (hV' : IntsVal w bo r) :
    Calls Try.prog 73 #[.agg #[.int .i64 b, .int .i64 c, .int .i64 u, .int .i64 mn, .int .i64 mx, .int .i64 sm, .slice ao n cap], .agg #[.int .i64 b', .int .i64 c', .int .i64 u', .int .i64 mn', .int .i64 mx', .int .i64 sm', .slice bo m cap9]] w (EqSmPost ⟨b, c, u, mn, mx, sm, l⟩ ⟨b', c', u', mn', mx', sm', r⟩ w) := by
  have HG := Lib.hid hV
  have HH := Lib.hid hV'
  have HL := Lib.hid hl
  have HR := Lib.hid hr
  clear hV hV' hl hr
  have hnI : (n : Int) ≤ 1099511627776 := by omega
  have hmI : (m : Int) ≤ 1099511627776 := by omega
  by_cases hb : b = b'
  · skip
    have qb : (b == b') = true := beq_iff_eq.2 hb
    have Hb := Lib.hid hb
    clear hb
    by_cases hc : c = c'
    · skip
      have qc : (c == c') = true := beq_iff_eq.2 hc
      have Hc := Lib.hid hc
      clear hc
      by_cases hu : u = u'
      · skip
        have qu : (u == u') = true := beq_iff_eq.2 hu
        have Hu := Lib.hid hu
        clear hu
        by_cases hmn : mn = mn'
        · skip
          have qmn : (mn == mn') = true := beq_iff_eq.2 hmn
          have Hmn := Lib.hid hmn
          clear hmn
          by_cases hmx : mx = mx'
          · skip
            have qmx : (mx == mx') = true := beq_iff_eq.2 hmx
            have Hmx := Lib.hid hmx
            clear hmx
            by_cases hsm : sm = sm'
            · skip
              have qsm : (sm == sm') = true := beq_iff_eq.2 hsm
              have Hsm := Lib.hid hsm
              clear hsm
              have IE := fun w hV hV' => ints_equal ao bo n m cap cap9 l r w HL.out HR.out hn hm hV hV'
              obtain ⟨q, hq⟩ : ∃ q, q = decide (l = r) := ⟨_, rfl⟩
              simp only [← hq] at IE
              have IE' := Lib.hid IE
              have AN := Lib.hid (show q = true ↔ ((⟨b, c, u, mn, mx, sm, l⟩ : Sm) = ⟨b', c', u', mn', mx', sm', r⟩) from by
                constructor
                · intro h
                  rw [hq] at h
                  have hlr := of_decide_eq_true h
                  rw [Hb.out, Hc.out, Hu.out, Hmn.out, Hmx.out, Hsm.out, hlr]
                · intro e
                  injection e with _ _ _ _ _ _ hlr
                  rw [hq]; exact decide_eq_true hlr)
              clear hq IE
              go_enter Try.func73, Try.ntmps73
              go_wp2_with fail
              have K0 := ((Kept.start w).alloc7 (.int .i64 b) (.int .i64 c) (.int .i64 u) (.int .i64 mn) (.int .i64 mx) (.int .i64 sm) (.slice ao n cap) 77 _ rfl).alloc7 (.int .i64 b') (.int .i64 c') (.int .i64 u') (.int .i64 mn') (.int .i64 mx') (.int .i64 sm') (.slice bo m cap9) 77 (w.heap.size + 1) (by simp)
              refine (IE'.out _ (HG.out.below K0.1) (HH.out.below K0.1)).mono ?_
              rintro e9 w1 ⟨rfl, hb⟩
              have K1 := K0.step hb
              clear hb K0
              go_wp2
              go_ret
              exact ⟨⟨_, AN.out, rfl⟩, K1.1⟩
            · skip
              have qsm : (sm == sm') = false := beq_eq_false_iff_ne.2 hsm
              have NO := Lib.hid (show ¬ ((⟨b, c, u, mn, mx, sm, l⟩ : Sm) = ⟨b', c', u', mn', mx', sm', r⟩) from fun e => hsm (by injection e))
              clear hsm
              go_enter Try.func73, Try.ntmps73
              go_wp2_with fail
              have K0 := ((Kept.start w).alloc7 (.int .i64 b) (.int .i64 c) (.int .i64 u) (.int .i64 mn) (.int .i64 mx) (.int .i64 sm) (.slice ao n cap) 77 _ rfl).alloc7 (.int .i64 b') (.int .i64 c') (.int .i64 u') (.int .i64 mn') (.int .i64 mx') (.int .i64 sm') (.slice bo m cap9) 77 (w.heap.size + 1) (by simp)
              go_wp2
              go_ret
              exact EqSmPost.no NO.out K0.1
          · skip
            have qmx : (mx == mx') = false := beq_eq_false_iff_ne.2 hmx
            have NO := Lib.hid (show ¬ ((⟨b, c, u, mn, mx, sm, l⟩ : Sm) = ⟨b', c', u', mn', mx', sm', r⟩) from fun e => hmx (by injection e))
            clear hmx
            go_enter Try.func73, Try.ntmps73
            go_wp2_with fail
            have K0 := ((Kept.start w).alloc7 (.int .i64 b) (.int .i64 c) (.int .i64 u) (.int .i64 mn) (.int .i64 mx) (.int .i64 sm) (.slice ao n cap) 77 _ rfl).alloc7 (.int .i64 b') (.int .i64 c') (.int .i64 u') (.int .i64 mn') (.int .i64 mx') (.int .i64 sm') (.slice bo m cap9) 77 (w.heap.size + 1) (by simp)
            go_wp2
            go_ret
            exact EqSmPost.no NO.out K0.1
        · skip
          have qmn : (mn == mn') = false := beq_eq_false_iff_ne.2 hmn
          have NO := Lib.hid (show ¬ ((⟨b, c, u, mn, mx, sm, l⟩ : Sm) = ⟨b', c', u', mn', mx', sm', r⟩) from fun e => hmn (by injection e))
          clear hmn
          go_enter Try.func73, Try.ntmps73
          go_wp2_with fail
          have K0 := ((Kept.start w).alloc7 (.int .i64 b) (.int .i64 c) (.int .i64 u) (.int .i64 mn) (.int .i64 mx) (.int .i64 sm) (.slice ao n cap) 77 _ rfl).alloc7 (.int .i64 b') (.int .i64 c') (.int .i64 u') (.int .i64 mn') (.int .i64 mx') (.int .i64 sm') (.slice bo m cap9) 77 (w.heap.size + 1) (by simp)
          go_wp2
          go_ret
          exact EqSmPost.no NO.out K0.1
      · skip
        have qu : (u == u') = false := beq_eq_false_iff_ne.2 hu
        have NO := Lib.hid (show ¬ ((⟨b, c, u, mn, mx, sm, l⟩ : Sm) = ⟨b', c', u', mn', mx', sm', r⟩) from fun e => hu (by injection e))
        clear hu
        go_enter Try.func73, Try.ntmps73
        go_wp2_with fail
        have K0 := ((Kept.start w).alloc7 (.int .i64 b) (.int .i64 c) (.int .i64 u) (.int .i64 mn) (.int .i64 mx) (.int .i64 sm) (.slice ao n cap) 77 _ rfl).alloc7 (.int .i64 b') (.int .i64 c') (.int .i64 u') (.int .i64 mn') (.int .i64 mx') (.int .i64 sm') (.slice bo m cap9) 77 (w.heap.size + 1) (by simp)
        go_wp2
        go_ret
        exact EqSmPost.no NO.out K0.1
    · skip
      have qc : (c == c') = false := beq_eq_false_iff_ne.2 hc
      have NO := Lib.hid (show ¬ ((⟨b, c, u, mn, mx, sm, l⟩ : Sm) = ⟨b', c', u', mn', mx', sm', r⟩) from fun e => hc (by injection e))
      clear hc
      go_enter Try.func73, Try.ntmps73
      go_wp2_with fail
      have K0 := ((Kept.start w).alloc7 (.int .i64 b) (.int .i64 c) (.int .i64 u) (.int .i64 mn) (.int .i64 mx) (.int .i64 sm) (.slice ao n cap) 77 _ rfl).alloc7 (.int .i64 b') (.int .i64 c') (.int .i64 u') (.int .i64 mn') (.int .i64 mx') (.int .i64 sm') (.slice bo m cap9) 77 (w.heap.size + 1) (by simp)
      go_wp2
      go_ret
      exact EqSmPost.no NO.out K0.1
  · skip
    have qb : (b == b') = false := beq_eq_false_iff_ne.2 hb
    have NO := Lib.hid (show ¬ ((⟨b, c, u, mn, mx, sm, l⟩ : Sm) = ⟨b', c', u', mn', mx', sm', r⟩) from fun e => hb (by injection e))
    clear hb
    go_enter Try.func73, Try.ntmps73
    go_wp2_with fail
    have K0 := ((Kept.start w).alloc7 (.int .i64 b) (.int .i64 c) (.int .i64 u) (.int .i64 mn) (.int .i64 mx) (.int .i64 sm) (.slice ao n cap) 77 _ rfl).alloc7 (.int .i64 b') (.int .i64 c') (.int .i64 u') (.int .i64 mn') (.int .i64 mx') (.int .i64 sm') (.slice bo m cap9) 77 (w.heap.size + 1) (by simp)
    go_wp2
    go_ret
    exact EqSmPost.no NO.out K0.1

end Go.Proofs.Ytcfcohnkkgickaa
