/-
  Texts of one base, merged: HgHistI, ArImpl, IbImpl, BvImpl, SmSumI, AbImpl.
-/
import Derived.Test.YtcfcohnkkgickaaRows
import Derived.Test.YtcfcohnkkgickaaHgImpl
import Derived.Test.YtcfcohnkkgickaaHgHist
import Derived.Test.YtcfcohnkkgickaaRvImpl
import Derived.Test.YtcfcohnkkgickaaArSpec
import Derived.WalkKit
import Derived.WalkSpells
import Derived.WalkLawsBesides
import Derived.Test.YtcfcohnkkgickaaBkLaw
import Derived.IntWalk
import Derived.Lib.Hide
import Derived.Test.YtcfcohnkkgickaaKeep
import Derived.Test.YtcfcohnkkgickaaSmFold
import Derived.Test.YtcfcohnkkgickaaInv
import Derived.Test.YtcfcohnkkgickaaTtPlain
import Derived.Deep.RegionHeld3
namespace Go.Proofs.Ytcfcohnkkgickaa
open Go.RowKit Num

set_option maxRecDepth 8000 in
set_option maxHeartbeats 6400000 in
theorem impl_histV (ao : Option Addr) (n cap : Nat) (l : List Rw) (w : World) (hl : l.length = n) (hn : n ≤ 1048576) (hV : RowsVal w ao n (Rn l)) :
    Calls Try.prog 32 #[.slice ao n cap] w (IntsOut (histL l) w) := by
  have HM := Lib.hid (cells_alloc (Below.refl w.heap.size w) (List.replicate 12 0) 126 w.heap.size rfl)
  have HO := Lib.hid hV
  have HL := Lib.hid hl
  clear hV hl
  have hnI : (n : Int) ≤ 1048576 := by omega
  go_enter Try.func32, Try.ntmps32
  go_wp2_with fail
  go_loopw [8] (fun iv wr => ∃ k : Nat, k ≤ n ∧ iv = .int .i64 k ∧ Hid (Cells w wr w.heap.size (histL (l.take k)))) (fun iv _ => n - (intOf iv).toNat)
  case atStart => exact ⟨0, Nat.zero_le _, rfl, HM.out⟩
  case round =>
    obtain ⟨k, hk, rfl, HC⟩ := hrel
    clear HM
    by_cases hlt : k < n
    · have hkI : (k : Int) < (n : Int) := by omega
      obtain ⟨g, rfl, hg, hR⟩ := (HO.out.below HC.out.1).resolve_left (by omega)
      have hrow := hR k hlt
      obtain ⟨r, hr⟩ : ∃ r, r = Rn l k := ⟨_, rfl⟩
      rw [← hr] at hrow
      obtain ⟨c0, c1, c2, c3, c4⟩ := hrow
      have NX := Lib.hid (show histL (l.take (k + 1)) = bumpH (histL (l.take k)) r by rw [histL_take (by rw [HL.out]; exact hlt), hr, Rn_at (by rw [HL.out]; exact hlt)])
      obtain ⟨ri, rg, ry, rx, rn⟩ := r
      simp only at c0 c1 c2 c3 c4
      have RV := Lib.hid (fun w => impl_rv ri rg ry rx rn w)
      obtain ⟨v, hv⟩ : ∃ v, v = rowB ri rg ry rx rn := ⟨_, rfl⟩
      rw [← hv] at RV
      have HVV := Lib.hid hv
      have K1 := (Kept.start wr).alloc5 (.int .i64 ri) (.int .i64 rg) (.int .i64 ry) (.int .i64 rx) (.bool rn) 36 _ rfl
      have HC1 := Lib.hid (HC.out.step K1.1)
      clear hR hr hv
      go_upto_region 5 with fail
      clear c0 c1 c2 c3 c4
      obtain ⟨w1, hw1⟩ : ∃ w1, w1 = wr.alloc (.cells #[.int .i64 ri, .int .i64 rg, .int .i64 ry, .int .i64 rx, .bool rn] 36) := ⟨_, rfl⟩
      rw [← hw1] at K1 HC1 ⊢
      clear hw1
      have a0 := K1.get 0 rfl
      have a1 := K1.get 1 rfl
      have a2 := K1.get 2 rfl
      have a3 := K1.get 3 rfl
      have a4 := K1.get 4 rfl
      go_wp2_with fail
      refine (RV.out _).mono ?_
      rintro e w2 ⟨rfl, hb⟩
      have HC2 := Lib.hid (HC1.out.step hb)
      have K2 := K1.step hb
      clear hb a0 a1 a2 a3 a4 K1
      cases v
      · have NY := Lib.hid (show histL (l.take (k + 1)) = histL (l.take k) by rw [NX.out]; exact bump_no HVV.out.symm)
        clear K2
        go_wp2
        go_roundw
        case rel => exact ⟨k + 1, by omega, by go_num, by rw [NY.out]; exact HC2.out⟩
        case measure => simp [intOf]; omega
      · have NY := Lib.hid (show histL (l.take (k + 1)) = (histL (l.take k)).set (cellIx ⟨ri, rg, ry, rx, rn⟩) ((histL (l.take k)).getD (cellIx ⟨ri, rg, ry, rx, rn⟩) 0 + 1) by rw [NX.out]; exact bump_yes HVV.out.symm)
        obtain ⟨_, hg1, hy1, _⟩ := rowB_of HVV.out.symm
        have hci := cellIx_lt (r := ⟨ri, rg, ry, rx, rn⟩) HVV.out.symm
        obtain ⟨ci, hci0⟩ : ∃ ci, ci = cellIx ⟨ri, rg, ry, rx, rn⟩ := ⟨_, rfl⟩
        rw [← hci0] at NY hci
        obtain ⟨hci1, hci2⟩ := hci
        simp only at hci2
        have hbd := bandI_in hy1
        obtain ⟨bd, hbd0⟩ : ∃ bd, bd = bandI ry := ⟨_, rfl⟩
        have BD := Lib.hid (fun w => impl_band ry w)
        rw [← hbd0] at BD hbd
        obtain ⟨hb0, hb1, hb2⟩ := hbd
        rw [← hb0] at hci2
        have CI := Lib.hid (fun w => impl_cix rg bd w hg1.1 hg1.2 hb1 hb2)
        rw [show rg * 3 + bd = (ci : Int) from hci2.symm] at CI
        have a1 := K2.get 1 rfl
        have a2 := K2.get 2 rfl
        have hlen := histL_len (l.take k)
        have hcell := HC2.out.at (k := ci) (by rw [hlen]; exact hci1)
        obtain ⟨x, hx⟩ : ∃ x, x = (histL (l.take k)).getD ci 0 := ⟨_, rfl⟩
        rw [← hx] at hcell NY
        have hxb : 0 ≤ x ∧ x ≤ 1048576 := by
          rw [hx, List.getD_eq_getElem?_getD, List.getElem?_eq_getElem (by rw [hlen]; exact hci1), Option.getD_some]
          have := histL_bound l k (by rw [HL.out]; omega) _ (List.getElem_mem (by rw [hlen]; exact hci1 : ci < (histL (l.take k)).length))
          omega
        obtain ⟨x0, x1⟩ := hxb
        obtain ⟨d0, f0⟩ := hcell
        have HLN := Lib.hid hlen
        have hciI : (ci : Int) < 12 := by omega
        have HP := Lib.hid (show Cells w (w2.drew.setCell ⟨w.heap.size, ci, none⟩ (.int .i64 (x + 1))) w.heap.size (histL (l.take (k + 1))) by
          rw [NY.out]; exact (HC2.out.step (Below.refl _ _).drew).put (by rw [HLN.out]; exact hci1) _)
        have hw : IntKind.i64.wrap (x + 1) = x + 1 := by rw [IntKind.wrap_i64]; omega
        clear hci0 hbd0 hb0 hy1 hx hlen hci2 hb1 hb2 hg1 K2
        go_wp2_with fail
        go_region_with (first | (go_at_call 46; (with_reducible refine (BD.out _).mono ?_); rintro e9 w9 ⟨rfl, rfl⟩) | (go_at_call 97; (with_reducible refine (CI.out _).mono ?_); rintro e9 w9 ⟨rfl, rfl⟩))
        all_goals
          clear a1 a2 d0 f0
          go_wp2
          go_roundw
          case rel => exact ⟨k + 1, by omega, by go_num, HP.out⟩
          case measure => simp [intOf]; omega
    · obtain rfl : k = n := by omega
      have hsd : decide ((k : Int) < (k : Int)) = false := decide_eq_false (by omega)
      have HT := Lib.hid (show l.take k = l from by rw [← HL.out, List.take_length])
      have HC9 := Lib.hid (show Cells w wr w.heap.size (histL l) by rw [← HT.out]; exact HC.out)
      have hs := HC9.out.rep (cap := 12) (by rw [histL_len]; decide)
      rw [histL_len] at hs
      have HS := Lib.hid hs
      clear hs
      go_wp2
      go_ret
      exact ⟨_, _, rfl, HS.out, by simp, (fun k hk => by simp at hk; omega), HC9.out.1⟩
end Go.Proofs.Ytcfcohnkkgickaa

namespace Go.Proofs.Ytcfcohnkkgickaa
open Go.RowKit Num

/-- A row's box: block B. -/
def box5 (B : Nat) (r : Rw) : List (Addr × Value) := [(⟨B, 0, none⟩, .int .i64 r.i), (⟨B, 1, none⟩, .int .i64 r.g), (⟨B, 2, none⟩, .int .i64 r.y), (⟨B, 3, none⟩, .int .i64 r.x), (⟨B, 4, none⟩, .bool r.nl)]
theorem b5_start {W w : World} {B : Nat} {r : Rw} (h : Kept W w (box5 B r)) :
    w.drew.cell? ⟨B, 0, none⟩ = some (.int .i64 r.i) ∧ w.drew.cell? ⟨B, 1, none⟩ = some (.int .i64 r.g) ∧ w.drew.cell? ⟨B, 2, none⟩ = some (.int .i64 r.y) ∧ w.drew.cell? ⟨B, 3, none⟩ = some (.int .i64 r.x) ∧ w.drew.cell? ⟨B, 4, none⟩ = some (.bool r.nl) ∧ Kept W w.drew (box5 B r) :=
  have k := h.drew
  ⟨k.get 0 rfl, k.get 1 rfl, k.get 2 rfl, k.get 3 rfl, k.get 4 rfl, k⟩
theorem b5_keep {W w w' : World} {B : Nat} {r : Rw} (h : w.cell? ⟨B, 0, none⟩ = some (.int .i64 r.i) ∧ w.cell? ⟨B, 1, none⟩ = some (.int .i64 r.g) ∧ w.cell? ⟨B, 2, none⟩ = some (.int .i64 r.y) ∧ w.cell? ⟨B, 3, none⟩ = some (.int .i64 r.x) ∧ w.cell? ⟨B, 4, none⟩ = some (.bool r.nl) ∧ Kept W w (box5 B r)) (hb : Below w.heap.size w w') :
    w'.cell? ⟨B, 0, none⟩ = some (.int .i64 r.i) ∧ w'.cell? ⟨B, 1, none⟩ = some (.int .i64 r.g) ∧ w'.cell? ⟨B, 2, none⟩ = some (.int .i64 r.y) ∧ w'.cell? ⟨B, 3, none⟩ = some (.int .i64 r.x) ∧ w'.cell? ⟨B, 4, none⟩ = some (.bool r.nl) ∧ Kept W w' (box5 B r) :=
  have k := h.2.2.2.2.2.step hb
  ⟨k.get 0 rfl, k.get 1 rfl, k.get 2 rfl, k.get 3 rfl, k.get 4 rfl, k⟩
theorem b6_start {W w : World} {B : Nat} {r : Rw} {a : Addr} {v : Value} (h : Kept W w (box5 B r)) (ha : w.cell? a = some v) :
    w.drew.cell? ⟨B, 0, none⟩ = some (.int .i64 r.i) ∧ w.drew.cell? ⟨B, 1, none⟩ = some (.int .i64 r.g) ∧ w.drew.cell? ⟨B, 2, none⟩ = some (.int .i64 r.y) ∧ w.drew.cell? ⟨B, 3, none⟩ = some (.int .i64 r.x) ∧ w.drew.cell? ⟨B, 4, none⟩ = some (.bool r.nl) ∧ w.drew.cell? a = some v ∧ Kept W w.drew (box5 B r) :=
  have k := h.drew
  ⟨k.get 0 rfl, k.get 1 rfl, k.get 2 rfl, k.get 3 rfl, k.get 4 rfl, ha, k⟩
theorem b6_keep {W w w' : World} {B : Nat} {r : Rw} {a : Addr} {v : Value} (h : w.cell? ⟨B, 0, none⟩ = some (.int .i64 r.i) ∧ w.cell? ⟨B, 1, none⟩ = some (.int .i64 r.g) ∧ w.cell? ⟨B, 2, none⟩ = some (.int .i64 r.y) ∧ w.cell? ⟨B, 3, none⟩ = some (.int .i64 r.x) ∧ w.cell? ⟨B, 4, none⟩ = some (.bool r.nl) ∧ w.cell? a = some v ∧ Kept W w (box5 B r)) (hb : Below w.heap.size w w') :
    w'.cell? ⟨B, 0, none⟩ = some (.int .i64 r.i) ∧ w'.cell? ⟨B, 1, none⟩ = some (.int .i64 r.g) ∧ w'.cell? ⟨B, 2, none⟩ = some (.int .i64 r.y) ∧ w'.cell? ⟨B, 3, none⟩ = some (.int .i64 r.x) ∧ w'.cell? ⟨B, 4, none⟩ = some (.bool r.nl) ∧ w'.cell? a = some v ∧ Kept W w' (box5 B r) :=
  have k := h.2.2.2.2.2.2.step hb
  ⟨k.get 0 rfl, k.get 1 rfl, k.get 2 rfl, k.get 3 rfl, k.get 4 rfl, by rw [hb.cell (World.block_lt_of_cell? w _ h.2.2.2.2.2.1)]; exact h.2.2.2.2.2.1, k⟩

set_option maxRecDepth 8000 in
set_option maxHeartbeats 6400000 in
theorem impl_arV (ao : Option Addr) (n cap : Nat) (R : Nat → Rw) (w : World) (hn : n ≤ 1048576) (hV : RowsVal w ao n R) :
    Calls Try.prog 143 #[.slice ao n cap] w fun e w' => e = .returned (.bool (areB R n)) ∧ Below w.heap.size w w' := by
  have HO := Lib.hid hV
  clear hV
  have hnI : (n : Int) ≤ 1048576 := by omega
  go_enter Try.func143, Try.ntmps143
  go_wp2_with fail
  go_loopw [7] (fun iv wr => ∃ k : Nat, k ≤ n ∧ iv = .int .i64 k ∧ Hid (areB R k = true) ∧ Hid (Below w.heap.size w wr)) (fun iv _ => n - (intOf iv).toNat)
  case atStart => exact ⟨0, Nat.zero_le _, rfl, rfl, Below.refl _ _⟩
  case round =>
    obtain ⟨k, hk, rfl, HA, HB⟩ := hrel
    by_cases hlt : k < n
    · have hkI : (k : Int) < (n : Int) := by omega
      obtain ⟨g, rfl, hg, hR⟩ : ∃ g, ao = some ⟨g, 0, none⟩ ∧ g < w.heap.size ∧ ∀ k, k < n → RowIn w g k (R k) := HO.out.resolve_left (by omega)
      have HR := Lib.hid hR
      clear hR
      obtain ⟨c0, c1, c2, c3, c4⟩ := (HR.out k hlt).below HB.out hg
      have hgr : g < wr.heap.size := Nat.lt_of_lt_of_le hg HB.out.size
      have K0 : Kept w (wr.alloc (.cells #[.int .i64 (R k).i, .int .i64 (R k).g, .int .i64 (R k).y, .int .i64 (R k).x, .bool (R k).nl] 36)) (box5 wr.heap.size (R k)) := Kept.alloc5 (show Kept w wr [] from ⟨HB.out, fun _ h => by cases h⟩) _ _ _ _ _ _ _ rfl
      have HK := Lib.hid K0
      clear K0
      cases hv : (R k).ok
      · have AN := Lib.hid (areB_bad hlt hv)
        have D0 := fun w => impl_rv (R k).i (R k).g (R k).y (R k).x (R k).nl w
        unfold Rw.ok at hv
        rw [hv] at D0
        have DV := Lib.hid D0
        clear D0 hv
        go_wp2_with fail
        refine wp_region_held_drew (S := fun w' => w'.cell? ⟨wr.heap.size, 0, none⟩ = some (.int .i64 (R k).i) ∧ w'.cell? ⟨wr.heap.size, 1, none⟩ = some (.int .i64 (R k).g) ∧ w'.cell? ⟨wr.heap.size, 2, none⟩ = some (.int .i64 (R k).y) ∧ w'.cell? ⟨wr.heap.size, 3, none⟩ = some (.int .i64 (R k).x) ∧ w'.cell? ⟨wr.heap.size, 4, none⟩ = some (.bool (R k).nl) ∧ Kept w w' (box5 wr.heap.size (R k))) (by kernel_rfl) (b5_start HK.out) (fun hHeld => ?_)
        refine wpAnyH_take (i := 0) (oi := { dst := some 12, op := Go.Op.load 36 (Go.Operand.tmp 4), type := 36, pos := "l04_row.go:100", after := #[], guard := none }) (v := .agg #[.int .i64 (R k).i, .int .i64 (R k).g, .int .i64 (R k).y, .int .i64 (R k).x, .bool (R k).nl]) rfl (by kernel_rfl) (by kernel_rfl) (by kernel_rfl) (fun _ _ _ h => h) (Or.inl ⟨by rfl, ?_⟩) (by assumption) ?_
        · intro w8 hS8
          (try dsimp only at hS8)
          go_simp
        try simp only [Act.put, List.setIfInBounds_toArray, List.set_cons_zero, List.set_cons_succ]
        refine wpAnyH_ready (rs := [1]) (by kernel_rfl) (by simp) ?_
        refine AllReadyH.cons (o := { dst := some 13, op := Go.Op.call { callee := Go.Callee.value (Go.Operand.func 96), args := #[Go.Operand.tmp 12], argTypes := #[36] }, type := 4, pos := "l04_row.go:100", after := #[{ on := 0, ground := Go.Ground.data }], guard := none }) rfl (fun K hK => ?_) AllReadyH.nil
        go_simp
        go_at_call 96
        (with_reducible refine (DV.out _).mono ?_)
        rintro e9 w9 ⟨rfl, hb⟩
        refine hK.out _ _ ?_ (fun hH1 => ?_)
        · exact b5_keep hHeld hb
        clear hK K
        try simp only [Act.put, List.setIfInBounds_toArray, List.set_cons_zero, List.set_cons_succ]
        refine wpAnyH_take (i := 2) (oi := { dst := some 14, op := Go.Op.unOp UnOp.not 4 (Go.Operand.tmp 13), type := 4, pos := "l04_row.go:100", after := #[{ on := 1, ground := Go.Ground.data }], guard := none }) (v := .bool true) rfl (by kernel_rfl) (by kernel_rfl) (by kernel_rfl) (fun _ _ _ h => h) (Or.inl ⟨by rfl, ?_⟩) (by assumption) ?_
        · intro w8 hS8
          (try dsimp only at hS8)
          go_simp
        try simp only [Act.put, List.setIfInBounds_toArray, List.set_cons_zero, List.set_cons_succ]
        refine wpAnyH_take (i := 3) (oi := { dst := some 15, op := Go.Op.move (Go.Operand.tmp 14), type := 4, pos := "l04_row.go:100", after := #[{ on := 2, ground := Go.Ground.data }, { on := 1, ground := Go.Ground.chain }], guard := none }) (v := .bool true) rfl (by kernel_rfl) (by kernel_rfl) (by kernel_rfl) (fun _ _ _ h => h) (Or.inl ⟨by rfl, ?_⟩) (by assumption) ?_
        · intro w8 hS8
          (try dsimp only at hS8)
          go_simp
        try simp only [Act.put, List.setIfInBounds_toArray, List.set_cons_zero, List.set_cons_succ]
        refine held_skip (i := 4) (oi := { dst := some 16, op := Go.Op.move (Go.Operand.tmp 3), type := 3, pos := "l04_row.go:100", after := #[{ on := 3, ground := Go.Ground.guard }], guard := some (3, false) }) rfl (by kernel_rfl) (by kernel_rfl) (by kernel_rfl) (fun _ _ _ h => h) (by rfl) (by assumption) ?_
        try simp only [Act.put, List.setIfInBounds_toArray, List.set_cons_zero, List.set_cons_succ]
        refine held_skip (i := 5) (oi := { dst := some 17, op := Go.Op.binOp BinOp.gtr 3 (Go.Operand.tmp 16) (Go.Operand.const (Go.Value.int Go.IntKind.i64 0)) 3, type := 4, pos := "l04_row.go:100", after := #[{ on := 4, ground := Go.Ground.data }, { on := 3, ground := Go.Ground.guard }], guard := some (3, false) }) rfl (by kernel_rfl) (by kernel_rfl) (by kernel_rfl) (fun _ _ _ h => h) (by rfl) (by assumption) ?_
        try simp only [Act.put, List.setIfInBounds_toArray, List.set_cons_zero, List.set_cons_succ]
        refine held_skip (i := 6) (oi := { dst := some 18, op := Go.Op.move (Go.Operand.tmp 17), type := 4, pos := "l04_row.go:100", after := #[{ on := 5, ground := Go.Ground.data }, { on := 3, ground := Go.Ground.chain }, { on := 3, ground := Go.Ground.guard }], guard := some (3, false) }) rfl (by kernel_rfl) (by kernel_rfl) (by kernel_rfl) (fun _ _ _ h => h) (by rfl) (by assumption) ?_
        try simp only [Act.put, List.setIfInBounds_toArray, List.set_cons_zero, List.set_cons_succ]
        refine held_skip (i := 7) (oi := { dst := some 19, op := Go.Op.move (Go.Operand.tmp 0), type := 57, pos := "l04_row.go:100", after := #[{ on := 6, ground := Go.Ground.guard }], guard := some (6, true) }) rfl (by kernel_rfl) (by kernel_rfl) (by kernel_rfl) (fun _ _ _ h => h) (by rfl) (by assumption) ?_
        try simp only [Act.put, List.setIfInBounds_toArray, List.set_cons_zero, List.set_cons_succ]
        refine held_skip (i := 8) (oi := { dst := some 20, op := Go.Op.move (Go.Operand.tmp 3), type := 3, pos := "l04_row.go:100", after := #[{ on := 6, ground := Go.Ground.guard }], guard := some (6, true) }) rfl (by kernel_rfl) (by kernel_rfl) (by kernel_rfl) (fun _ _ _ h => h) (by rfl) (by assumption) ?_
        try simp only [Act.put, List.setIfInBounds_toArray, List.set_cons_zero, List.set_cons_succ]
        refine held_skip (i := 9) (oi := { dst := some 21, op := Go.Op.binOp BinOp.sub 3 (Go.Operand.tmp 20) (Go.Operand.const (Go.Value.int Go.IntKind.i64 1)) 3, type := 3, pos := "l04_row.go:100", after := #[{ on := 8, ground := Go.Ground.data }, { on := 6, ground := Go.Ground.guard }], guard := some (6, true) }) rfl (by kernel_rfl) (by kernel_rfl) (by kernel_rfl) (fun _ _ _ h => h) (by rfl) (by assumption) ?_
        try simp only [Act.put, List.setIfInBounds_toArray, List.set_cons_zero, List.set_cons_succ]
        refine held_skip (i := 10) (oi := { dst := some 22, op := Go.Op.indexAddr 57 (Go.Operand.tmp 19) (Go.Operand.tmp 21), type := 0, pos := "l04_row.go:100", after := #[{ on := 7, ground := Go.Ground.data }, { on := 9, ground := Go.Ground.data }, { on := 6, ground := Go.Ground.guard }], guard := some (6, true) }) rfl (by kernel_rfl) (by kernel_rfl) (by kernel_rfl) (fun _ _ _ h => h) (by rfl) (by assumption) ?_
        try simp only [Act.put, List.setIfInBounds_toArray, List.set_cons_zero, List.set_cons_succ]
        refine held_skip (i := 11) (oi := { dst := some 23, op := Go.Op.fieldAddr 36 (Go.Operand.tmp 22) 0, type := 0, pos := "l04_row.go:100", after := #[{ on := 10, ground := Go.Ground.data }, { on := 6, ground := Go.Ground.guard }], guard := some (6, true) }) rfl (by kernel_rfl) (by kernel_rfl) (by kernel_rfl) (fun _ _ _ h => h) (by rfl) (by assumption) ?_
        try simp only [Act.put, List.setIfInBounds_toArray, List.set_cons_zero, List.set_cons_succ]
        refine held_skip (i := 12) (oi := { dst := some 24, op := Go.Op.load 3 (Go.Operand.tmp 23), type := 3, pos := "l04_row.go:100", after := #[{ on := 11, ground := Go.Ground.data }, { on := 6, ground := Go.Ground.guard }], guard := some (6, true) }) rfl (by kernel_rfl) (by kernel_rfl) (by kernel_rfl) (fun _ _ _ h => h) (by rfl) (by assumption) ?_
        try simp only [Act.put, List.setIfInBounds_toArray, List.set_cons_zero, List.set_cons_succ]
        refine held_skip (i := 13) (oi := { dst := some 25, op := Go.Op.fieldAddr 36 (Go.Operand.tmp 4) 0, type := 0, pos := "l04_row.go:100", after := #[{ on := 6, ground := Go.Ground.guard }], guard := some (6, true) }) rfl (by kernel_rfl) (by kernel_rfl) (by kernel_rfl) (fun _ _ _ h => h) (by rfl) (by assumption) ?_
        try simp only [Act.put, List.setIfInBounds_toArray, List.set_cons_zero, List.set_cons_succ]
        refine held_skip (i := 14) (oi := { dst := some 26, op := Go.Op.load 3 (Go.Operand.tmp 25), type := 3, pos := "l04_row.go:100", after := #[{ on := 13, ground := Go.Ground.data }, { on := 6, ground := Go.Ground.guard }], guard := some (6, true) }) rfl (by kernel_rfl) (by kernel_rfl) (by kernel_rfl) (fun _ _ _ h => h) (by rfl) (by assumption) ?_
        try simp only [Act.put, List.setIfInBounds_toArray, List.set_cons_zero, List.set_cons_succ]
        refine held_skip (i := 15) (oi := { dst := some 27, op := Go.Op.binOp BinOp.geq 3 (Go.Operand.tmp 24) (Go.Operand.tmp 26) 3, type := 4, pos := "l04_row.go:100", after := #[{ on := 12, ground := Go.Ground.data }, { on := 14, ground := Go.Ground.data }, { on := 6, ground := Go.Ground.guard }], guard := some (6, true) }) rfl (by kernel_rfl) (by kernel_rfl) (by kernel_rfl) (fun _ _ _ h => h) (by rfl) (by assumption) ?_
        try simp only [Act.put, List.setIfInBounds_toArray, List.set_cons_zero, List.set_cons_succ]
        refine held_skip (i := 16) (oi := { dst := some 28, op := Go.Op.pick (Go.Operand.tmp 18) (Go.Operand.tmp 27) (Go.Operand.const (Go.Value.bool false)), type := 4, pos := "l04_row.go:100", after := #[{ on := 6, ground := Go.Ground.data }, { on := 15, ground := Go.Ground.data }, { on := 3, ground := Go.Ground.guard }], guard := some (3, false) }) rfl (by kernel_rfl) (by kernel_rfl) (by kernel_rfl) (fun _ _ _ h => h) (by rfl) (by assumption) ?_
        try simp only [Act.put, List.setIfInBounds_toArray, List.set_cons_zero, List.set_cons_succ]
        refine wpAnyH_take (i := 17) (oi := { dst := some 29, op := Go.Op.pick (Go.Operand.tmp 15) (Go.Operand.const (Go.Value.bool true)) (Go.Operand.tmp 28), type := 4, pos := "l04_row.go:100", after := #[{ on := 3, ground := Go.Ground.data }, { on := 16, ground := Go.Ground.data }], guard := none }) (v := .bool true) rfl (by kernel_rfl) (by kernel_rfl) (by kernel_rfl) (fun _ _ _ h => h) (Or.inl ⟨by rfl, ?_⟩) (by assumption) ?_
        · intro w8 hS8
          (try dsimp only at hS8)
          go_simp
        try simp only [Act.put, List.setIfInBounds_toArray, List.set_cons_zero, List.set_cons_succ]
        refine wpAnyH_done (by kernel_rfl) ?_ _
        go_wp2
        go_ret
        exact ⟨by rw [AN.out]; rfl, hH1.2.2.2.2.2.1⟩
      · have HV := Lib.hid hv
        have D0 := fun w => impl_rv (R k).i (R k).g (R k).y (R k).x (R k).nl w
        unfold Rw.ok at hv
        rw [hv] at D0
        have DV := Lib.hid D0
        clear D0 hv
        by_cases h0 : k = 0
        · have hz : decide ((0 : Int) < (k : Int)) = false := decide_eq_false (by omega)
          have H0 := Lib.hid h0
          have AN := Lib.hid (show areB R (k + 1) = true by have h1 := HV.out; rw [h0] at h1 ⊢; exact areB_zero h1)
          clear h0
          go_wp2_with fail
          refine wp_region_held_drew (S := fun w' => w'.cell? ⟨wr.heap.size, 0, none⟩ = some (.int .i64 (R k).i) ∧ w'.cell? ⟨wr.heap.size, 1, none⟩ = some (.int .i64 (R k).g) ∧ w'.cell? ⟨wr.heap.size, 2, none⟩ = some (.int .i64 (R k).y) ∧ w'.cell? ⟨wr.heap.size, 3, none⟩ = some (.int .i64 (R k).x) ∧ w'.cell? ⟨wr.heap.size, 4, none⟩ = some (.bool (R k).nl) ∧ Kept w w' (box5 wr.heap.size (R k))) (by kernel_rfl) (b5_start HK.out) (fun hHeld => ?_)
          refine wpAnyH_take (i := 0) (oi := { dst := some 12, op := Go.Op.load 36 (Go.Operand.tmp 4), type := 36, pos := "l04_row.go:100", after := #[], guard := none }) (v := .agg #[.int .i64 (R k).i, .int .i64 (R k).g, .int .i64 (R k).y, .int .i64 (R k).x, .bool (R k).nl]) rfl (by kernel_rfl) (by kernel_rfl) (by kernel_rfl) (fun _ _ _ h => h) (Or.inl ⟨by rfl, ?_⟩) (by assumption) ?_
          · intro w8 hS8
            (try dsimp only at hS8)
            go_simp
          try simp only [Act.put, List.setIfInBounds_toArray, List.set_cons_zero, List.set_cons_succ]
          refine wpAnyH_ready (rs := [1]) (by kernel_rfl) (by simp) ?_
          refine AllReadyH.cons (o := { dst := some 13, op := Go.Op.call { callee := Go.Callee.value (Go.Operand.func 96), args := #[Go.Operand.tmp 12], argTypes := #[36] }, type := 4, pos := "l04_row.go:100", after := #[{ on := 0, ground := Go.Ground.data }], guard := none }) rfl (fun K hK => ?_) AllReadyH.nil
          go_simp
          go_at_call 96
          (with_reducible refine (DV.out _).mono ?_)
          rintro e9 w9 ⟨rfl, hb⟩
          refine hK.out _ _ ?_ (fun hH1 => ?_)
          · exact b5_keep hHeld hb
          clear hK K
          try simp only [Act.put, List.setIfInBounds_toArray, List.set_cons_zero, List.set_cons_succ]
          refine wpAnyH_take (i := 2) (oi := { dst := some 14, op := Go.Op.unOp UnOp.not 4 (Go.Operand.tmp 13), type := 4, pos := "l04_row.go:100", after := #[{ on := 1, ground := Go.Ground.data }], guard := none }) (v := .bool false) rfl (by kernel_rfl) (by kernel_rfl) (by kernel_rfl) (fun _ _ _ h => h) (Or.inl ⟨by rfl, ?_⟩) (by assumption) ?_
          · intro w8 hS8
            (try dsimp only at hS8)
            go_simp
          try simp only [Act.put, List.setIfInBounds_toArray, List.set_cons_zero, List.set_cons_succ]
          refine wpAnyH_take (i := 3) (oi := { dst := some 15, op := Go.Op.move (Go.Operand.tmp 14), type := 4, pos := "l04_row.go:100", after := #[{ on := 2, ground := Go.Ground.data }, { on := 1, ground := Go.Ground.chain }], guard := none }) (v := .bool false) rfl (by kernel_rfl) (by kernel_rfl) (by kernel_rfl) (fun _ _ _ h => h) (Or.inl ⟨by rfl, ?_⟩) (by assumption) ?_
          · intro w8 hS8
            (try dsimp only at hS8)
            go_simp
          try simp only [Act.put, List.setIfInBounds_toArray, List.set_cons_zero, List.set_cons_succ]
          refine wpAnyH_take (i := 4) (oi := { dst := some 16, op := Go.Op.move (Go.Operand.tmp 3), type := 3, pos := "l04_row.go:100", after := #[{ on := 3, ground := Go.Ground.guard }], guard := some (3, false) }) (v := .int .i64 k) rfl (by kernel_rfl) (by kernel_rfl) (by kernel_rfl) (fun _ _ _ h => h) (Or.inl ⟨by rfl, ?_⟩) (by assumption) ?_
          · intro w8 hS8
            (try dsimp only at hS8)
            go_simp
          try simp only [Act.put, List.setIfInBounds_toArray, List.set_cons_zero, List.set_cons_succ]
          refine wpAnyH_take (i := 5) (oi := { dst := some 17, op := Go.Op.binOp BinOp.gtr 3 (Go.Operand.tmp 16) (Go.Operand.const (Go.Value.int Go.IntKind.i64 0)) 3, type := 4, pos := "l04_row.go:100", after := #[{ on := 4, ground := Go.Ground.data }, { on := 3, ground := Go.Ground.guard }], guard := some (3, false) }) (v := .bool false) rfl (by kernel_rfl) (by kernel_rfl) (by kernel_rfl) (fun _ _ _ h => h) (Or.inl ⟨by rfl, ?_⟩) (by assumption) ?_
          · intro w8 hS8
            (try dsimp only at hS8)
            (first | (go_simp; done) | (go_simp; exact H0.out))
          try simp only [Act.put, List.setIfInBounds_toArray, List.set_cons_zero, List.set_cons_succ]
          refine wpAnyH_take (i := 6) (oi := { dst := some 18, op := Go.Op.move (Go.Operand.tmp 17), type := 4, pos := "l04_row.go:100", after := #[{ on := 5, ground := Go.Ground.data }, { on := 3, ground := Go.Ground.chain }, { on := 3, ground := Go.Ground.guard }], guard := some (3, false) }) (v := .bool false) rfl (by kernel_rfl) (by kernel_rfl) (by kernel_rfl) (fun _ _ _ h => h) (Or.inl ⟨by rfl, ?_⟩) (by assumption) ?_
          · intro w8 hS8
            (try dsimp only at hS8)
            go_simp
          try simp only [Act.put, List.setIfInBounds_toArray, List.set_cons_zero, List.set_cons_succ]
          refine held_skip (i := 7) (oi := { dst := some 19, op := Go.Op.move (Go.Operand.tmp 0), type := 57, pos := "l04_row.go:100", after := #[{ on := 6, ground := Go.Ground.guard }], guard := some (6, true) }) rfl (by kernel_rfl) (by kernel_rfl) (by kernel_rfl) (fun _ _ _ h => h) (by rfl) (by assumption) ?_
          try simp only [Act.put, List.setIfInBounds_toArray, List.set_cons_zero, List.set_cons_succ]
          refine held_skip (i := 8) (oi := { dst := some 20, op := Go.Op.move (Go.Operand.tmp 3), type := 3, pos := "l04_row.go:100", after := #[{ on := 6, ground := Go.Ground.guard }], guard := some (6, true) }) rfl (by kernel_rfl) (by kernel_rfl) (by kernel_rfl) (fun _ _ _ h => h) (by rfl) (by assumption) ?_
          try simp only [Act.put, List.setIfInBounds_toArray, List.set_cons_zero, List.set_cons_succ]
          refine held_skip (i := 9) (oi := { dst := some 21, op := Go.Op.binOp BinOp.sub 3 (Go.Operand.tmp 20) (Go.Operand.const (Go.Value.int Go.IntKind.i64 1)) 3, type := 3, pos := "l04_row.go:100", after := #[{ on := 8, ground := Go.Ground.data }, { on := 6, ground := Go.Ground.guard }], guard := some (6, true) }) rfl (by kernel_rfl) (by kernel_rfl) (by kernel_rfl) (fun _ _ _ h => h) (by rfl) (by assumption) ?_
          try simp only [Act.put, List.setIfInBounds_toArray, List.set_cons_zero, List.set_cons_succ]
          refine held_skip (i := 10) (oi := { dst := some 22, op := Go.Op.indexAddr 57 (Go.Operand.tmp 19) (Go.Operand.tmp 21), type := 0, pos := "l04_row.go:100", after := #[{ on := 7, ground := Go.Ground.data }, { on := 9, ground := Go.Ground.data }, { on := 6, ground := Go.Ground.guard }], guard := some (6, true) }) rfl (by kernel_rfl) (by kernel_rfl) (by kernel_rfl) (fun _ _ _ h => h) (by rfl) (by assumption) ?_
          try simp only [Act.put, List.setIfInBounds_toArray, List.set_cons_zero, List.set_cons_succ]
          refine held_skip (i := 11) (oi := { dst := some 23, op := Go.Op.fieldAddr 36 (Go.Operand.tmp 22) 0, type := 0, pos := "l04_row.go:100", after := #[{ on := 10, ground := Go.Ground.data }, { on := 6, ground := Go.Ground.guard }], guard := some (6, true) }) rfl (by kernel_rfl) (by kernel_rfl) (by kernel_rfl) (fun _ _ _ h => h) (by rfl) (by assumption) ?_
          try simp only [Act.put, List.setIfInBounds_toArray, List.set_cons_zero, List.set_cons_succ]
          refine held_skip (i := 12) (oi := { dst := some 24, op := Go.Op.load 3 (Go.Operand.tmp 23), type := 3, pos := "l04_row.go:100", after := #[{ on := 11, ground := Go.Ground.data }, { on := 6, ground := Go.Ground.guard }], guard := some (6, true) }) rfl (by kernel_rfl) (by kernel_rfl) (by kernel_rfl) (fun _ _ _ h => h) (by rfl) (by assumption) ?_
          try simp only [Act.put, List.setIfInBounds_toArray, List.set_cons_zero, List.set_cons_succ]
          refine held_skip (i := 13) (oi := { dst := some 25, op := Go.Op.fieldAddr 36 (Go.Operand.tmp 4) 0, type := 0, pos := "l04_row.go:100", after := #[{ on := 6, ground := Go.Ground.guard }], guard := some (6, true) }) rfl (by kernel_rfl) (by kernel_rfl) (by kernel_rfl) (fun _ _ _ h => h) (by rfl) (by assumption) ?_
          try simp only [Act.put, List.setIfInBounds_toArray, List.set_cons_zero, List.set_cons_succ]
          refine held_skip (i := 14) (oi := { dst := some 26, op := Go.Op.load 3 (Go.Operand.tmp 25), type := 3, pos := "l04_row.go:100", after := #[{ on := 13, ground := Go.Ground.data }, { on := 6, ground := Go.Ground.guard }], guard := some (6, true) }) rfl (by kernel_rfl) (by kernel_rfl) (by kernel_rfl) (fun _ _ _ h => h) (by rfl) (by assumption) ?_
          try simp only [Act.put, List.setIfInBounds_toArray, List.set_cons_zero, List.set_cons_succ]
          refine held_skip (i := 15) (oi := { dst := some 27, op := Go.Op.binOp BinOp.geq 3 (Go.Operand.tmp 24) (Go.Operand.tmp 26) 3, type := 4, pos := "l04_row.go:100", after := #[{ on := 12, ground := Go.Ground.data }, { on := 14, ground := Go.Ground.data }, { on := 6, ground := Go.Ground.guard }], guard := some (6, true) }) rfl (by kernel_rfl) (by kernel_rfl) (by kernel_rfl) (fun _ _ _ h => h) (by rfl) (by assumption) ?_
          try simp only [Act.put, List.setIfInBounds_toArray, List.set_cons_zero, List.set_cons_succ]
          refine wpAnyH_take (i := 16) (oi := { dst := some 28, op := Go.Op.pick (Go.Operand.tmp 18) (Go.Operand.tmp 27) (Go.Operand.const (Go.Value.bool false)), type := 4, pos := "l04_row.go:100", after := #[{ on := 6, ground := Go.Ground.data }, { on := 15, ground := Go.Ground.data }, { on := 3, ground := Go.Ground.guard }], guard := some (3, false) }) (v := .bool false) rfl (by kernel_rfl) (by kernel_rfl) (by kernel_rfl) (fun _ _ _ h => h) (Or.inl ⟨by rfl, ?_⟩) (by assumption) ?_
          · intro w8 hS8
            (try dsimp only at hS8)
            go_simp
          try simp only [Act.put, List.setIfInBounds_toArray, List.set_cons_zero, List.set_cons_succ]
          refine wpAnyH_take (i := 17) (oi := { dst := some 29, op := Go.Op.pick (Go.Operand.tmp 15) (Go.Operand.const (Go.Value.bool true)) (Go.Operand.tmp 28), type := 4, pos := "l04_row.go:100", after := #[{ on := 3, ground := Go.Ground.data }, { on := 16, ground := Go.Ground.data }], guard := none }) (v := .bool false) rfl (by kernel_rfl) (by kernel_rfl) (by kernel_rfl) (fun _ _ _ h => h) (Or.inl ⟨by rfl, ?_⟩) (by assumption) ?_
          · intro w8 hS8
            (try dsimp only at hS8)
            go_simp
          try simp only [Act.put, List.setIfInBounds_toArray, List.set_cons_zero, List.set_cons_succ]
          refine wpAnyH_done (by kernel_rfl) ?_ _
          have HG2 := Lib.hid hH1.2.2.2.2.2
          go_wp2
          go_roundw
          case rel => exact ⟨k + 1, by omega, by go_num, AN.out, HG2.out.1⟩
          case measure => simp [intOf]; omega
        · obtain ⟨m, hm⟩ : ∃ m, k = m + 1 := ⟨k - 1, by omega⟩
          have HM := Lib.hid (show (wr.alloc (.cells #[.int .i64 (R k).i, .int .i64 (R k).g, .int .i64 (R k).y, .int .i64 (R k).x, .bool (R k).nl] 36)).cell? ⟨g, m * 5, none⟩ = some (.int .i64 (R m).i) from cell_alloc_some _ ((HR.out m (by omega)).below HB.out hg).1)
          have hz : 0 < k := by omega
          have hw9 : IntKind.i64.wrap ((k : Int) - 1) = (m : Int) := by rw [IntWalk.i64_in _ (by omega)]; omega
          have hmI : (m : Int) < (n : Int) := by omega
          have hm0 : (0 : Int) ≤ (m : Int) := by omega
          have HMK := Lib.hid hm
          clear h0
          by_cases hl : (R m).i < (R k).i
          · have hq : decide ((R k).i ≤ (R m).i) = false := decide_eq_false (by omega)
            have AN := Lib.hid (show areB R (k + 1) = true by have h1 := HV.out; have h2 := HA.out; rw [hm] at h1 h2 hl ⊢; exact areB_next h2 h1 hl)
            clear hl hm
            go_wp2_with fail
            (first | go_region_held3 (fun w' => w'.cell? ⟨wr.heap.size, 0, none⟩ = some (.int .i64 (R k).i) ∧ w'.cell? ⟨wr.heap.size, 1, none⟩ = some (.int .i64 (R k).g) ∧ w'.cell? ⟨wr.heap.size, 2, none⟩ = some (.int .i64 (R k).y) ∧ w'.cell? ⟨wr.heap.size, 3, none⟩ = some (.int .i64 (R k).x) ∧ w'.cell? ⟨wr.heap.size, 4, none⟩ = some (.bool (R k).nl) ∧ w'.cell? ⟨g, m * 5, none⟩ = some (.int .i64 (R m).i) ∧ Kept w w' (box5 wr.heap.size (R k))) (first | assumption | exact b6_start HK.out HM.out | exact b6_keep (by assumption) (by assumption)) (first | (go_simp; go_at_call 96; (with_reducible refine (DV.out _).mono ?_); rintro e9 w9 ⟨rfl, hb⟩)) | fail)
            all_goals
              have HG2 := Lib.hid (‹_ ∧ _ ∧ _ ∧ _ ∧ _ ∧ _ ∧ Kept w w9 _›.2.2.2.2.2.2)
              clear hw9
              go_wp2
              go_roundw
              case rel => exact ⟨k + 1, by omega, by go_num, AN.out, HG2.out.1⟩
              case measure => simp [intOf]; omega
          · have hq : decide ((R k).i ≤ (R m).i) = true := decide_eq_true (by omega)
            have AN := Lib.hid (show areB R n = false by rw [hm] at hl hlt; exact areB_low hlt hl)
            clear hl hm
            go_wp2_with fail
            (first | go_region_held3 (fun w' => w'.cell? ⟨wr.heap.size, 0, none⟩ = some (.int .i64 (R k).i) ∧ w'.cell? ⟨wr.heap.size, 1, none⟩ = some (.int .i64 (R k).g) ∧ w'.cell? ⟨wr.heap.size, 2, none⟩ = some (.int .i64 (R k).y) ∧ w'.cell? ⟨wr.heap.size, 3, none⟩ = some (.int .i64 (R k).x) ∧ w'.cell? ⟨wr.heap.size, 4, none⟩ = some (.bool (R k).nl) ∧ w'.cell? ⟨g, m * 5, none⟩ = some (.int .i64 (R m).i) ∧ Kept w w' (box5 wr.heap.size (R k))) (first | assumption | exact b6_start HK.out HM.out | exact b6_keep (by assumption) (by assumption)) (first | (go_simp; go_at_call 96; (with_reducible refine (DV.out _).mono ?_); rintro e9 w9 ⟨rfl, hb⟩)) | fail)
            all_goals
              have HG2 := Lib.hid (‹_ ∧ _ ∧ _ ∧ _ ∧ _ ∧ _ ∧ Kept w w9 _›.2.2.2.2.2.2)
              clear hw9
              go_wp2
              go_ret
              exact ⟨by rw [AN.out]; rfl, HG2.out.1⟩
    · obtain rfl : k = n := by omega
      have hsd : decide ((k : Int) < (k : Int)) = false := decide_eq_false (by omega)
      go_wp2
      go_ret
      exact ⟨by rw [HA.out]; rfl, HB.out⟩

theorem impl_ar (g n cap : Nat) (R : Nat → Rw) (w : World) (hn : n ≤ 1048576) (hg : g < w.heap.size) (hR : ∀ k, k < n → RowIn w g k (R k)) :
    Calls Try.prog 143 #[.slice (some ⟨g, 0, none⟩) n cap] w fun e w' => e = .returned (.bool (areB R n)) ∧ Below w.heap.size w w' :=
  impl_arV _ n cap R w hn (.inr ⟨g, rfl, hg, hR⟩)
end Go.Proofs.Ytcfcohnkkgickaa

namespace Go.Proofs.Ytcfcohnkkgickaa
open Go.RowKit

theorem impl_ib (id : Int) (w : World) :
    Calls Try.prog 118 #[.int .i64 id] w fun e w' => e = .returned (.bool (decide (1 ≤ id ∧ id ≤ 20))) ∧ w = w' := by
  by_cases h1 : 1 ≤ id
  · by_cases h2 : id ≤ 20
    · rw [decide_eq_true (show 1 ≤ id ∧ id ≤ 20 from ⟨h1, h2⟩)]
      go_enter Try.func118, Try.ntmps118
      go_wp2
      go_ret
      exact ⟨rfl, rfl⟩
    · rw [decide_eq_false (show ¬ (1 ≤ id ∧ id ≤ 20) from fun h => h2 h.2)]
      go_enter Try.func118, Try.ntmps118
      go_wp2
      go_ret
      exact ⟨rfl, rfl⟩
  · rw [decide_eq_false (show ¬ (1 ≤ id ∧ id ≤ 20) from fun h => h1 h.1)]
    go_enter Try.func118, Try.ntmps118
    go_wp2
    go_ret
    exact ⟨rfl, rfl⟩
end Go.Proofs.Ytcfcohnkkgickaa

namespace Go.Proofs.Ytcfcohnkkgickaa
open Go.RowKit Num

set_option maxRecDepth 8000 in
set_option maxHeartbeats 3200000 in
theorem impl_bvV (id : Int) (ao : Option Addr) (n cap : Nat) (R : Nat → Rw) (w : World) (hn : n ≤ 1048576) (hV : RowsVal w ao n R) :
    Calls Try.prog 110 #[.agg #[.int .i64 id, .slice ao n cap]] w fun e w' => e = .returned (.bool (blkB id n R)) ∧ Below w.heap.size w w' := by
  have HV := Lib.hid hV
  clear hV
  have hnI : (n : Int) ≤ 1048576 := by omega
  have D1 := fun w => impl_ib id w
  have D2 := fun w hV => impl_arV ao n cap R w hn hV
  have E0 : blkB id n R = (decide (1 ≤ id ∧ id ≤ 20) && (areB R n && decide (n ≤ 6))) := rfl
  obtain ⟨q1, hq1⟩ : ∃ q, q = decide (1 ≤ id ∧ id ≤ 20) := ⟨_, rfl⟩
  obtain ⟨q2, hq2⟩ : ∃ q, q = areB R n := ⟨_, rfl⟩
  rw [← hq2] at D2 E0
  rw [← hq1] at E0
  simp only [← hq1] at D1
  have DD1 := Lib.hid D1
  have DD2 := Lib.hid D2
  clear D1 D2 hq1 hq2
  by_cases h6 : n ≤ 6
  · have h6d : decide ((n : Int) ≤ 6) = true := decide_eq_true (by omega)
    rw [decide_eq_true h6] at E0
    have E := Lib.hid E0
    clear E0
    go_enter Try.func110, Try.ntmps110
    go_wp2_with fail
    have K0 := (Kept.start w).alloc2 (.int .i64 id) (.slice ao n cap) 80 _ rfl
    refine (DD1.out _).mono ?_
    rintro r9 w1 ⟨rfl, rfl⟩
    have k0 := K0.get 0 rfl
    have k1 := K0.get 1 rfl
    cases q1
    · go_wp2
      go_ret
      exact ⟨by rw [E.out]; rfl, K0.1⟩
    · go_wp2_with fail
      refine (DD2.out _ (HV.out.below K0.1)).mono ?_
      rintro r9 w2 ⟨rfl, hb⟩
      have K1 := K0.step hb
      clear hb K0 k0 k1
      cases q2
      · go_wp2
        go_ret
        exact ⟨by rw [E.out]; rfl, K1.1⟩
      · go_wp2
        go_ret
        exact ⟨by rw [E.out]; rfl, K1.1⟩
  · have h6d : decide ((n : Int) ≤ 6) = false := decide_eq_false (by omega)
    rw [decide_eq_false h6] at E0
    have E := Lib.hid E0
    clear E0
    go_enter Try.func110, Try.ntmps110
    go_wp2_with fail
    have K0 := (Kept.start w).alloc2 (.int .i64 id) (.slice ao n cap) 80 _ rfl
    refine (DD1.out _).mono ?_
    rintro r9 w1 ⟨rfl, rfl⟩
    have k0 := K0.get 0 rfl
    have k1 := K0.get 1 rfl
    cases q1
    · go_wp2
      go_ret
      exact ⟨by rw [E.out]; rfl, K0.1⟩
    · go_wp2
      go_ret
      exact ⟨by rw [E.out]; cases q2 <;> rfl, K0.1⟩

theorem impl_bv (id : Int) (g n cap : Nat) (R : Nat → Rw) (w : World) (hn : n ≤ 1048576) (hg : g < w.heap.size) (hR : ∀ k, k < n → RowIn w g k (R k)) :
    Calls Try.prog 110 #[.agg #[.int .i64 id, .slice (some ⟨g, 0, none⟩) n cap]] w fun e w' => e = .returned (.bool (blkB id n R)) ∧ Below w.heap.size w w' :=
  impl_bvV id _ n cap R w hn (.inr ⟨g, rfl, hg, hR⟩)
end Go.Proofs.Ytcfcohnkkgickaa

namespace Go.Proofs.Ytcfcohnkkgickaa
open Go.RowKit Num

/-- What a function leaves that hands back a summary of its own. -/
def SmOut (b c u mn mx sm : Int) (h : List Int) (w : World) (e : Ending) (w' : World) : Prop :=
  ∃ v fp, e = .returned (.agg #[.int .i64 b, .int .i64 c, .int .i64 u, .int .i64 mn, .int .i64 mx, .int .i64 sm, v]) ∧ SliceRep intTy w' v h fp ∧ fp.Nodup ∧ (∀ k ∈ fp, w.heap.size ≤ k) ∧ Below w.heap.size w w'
theorem rowsVal_nil (w : World) (ao : Option Addr) (R : Nat → Rw) : RowsVal w ao 0 R := .inl rfl
/-- What Summarize answers, by its histogram and what the values come to. -/
theorem sumB_of {id : Int} {l : List Rw} (h : blkB id l.length (Rn l) = true) : sumB id l = sumOf id (histL l) (spL l) := by
  obtain ⟨_, h2, h3⟩ := blkB_of h
  rw [sumB_t h]
  unfold sumOf
  rw [(hist_ok (rows_ok h2) h3).2]
theorem sumB_no {id : Int} {l : List Rw} (h : blkB id l.length (Rn l) = false) : sumB id l = sumOf 0 (histL []) (spL []) := by
  rw [sumB_f h]
  rfl

def suI0 : Oper := { dst := some 7, op := Go.Op.fieldAddr 80 (Go.Operand.tmp 1) 0, type := 0, pos := "l09_summary.go:70", after := #[], guard := none }
def suI1 : Oper := { dst := some 8, op := Go.Op.load 3 (Go.Operand.tmp 7), type := 3, pos := "l09_summary.go:70", after := #[{ on := 0, ground := Go.Ground.data }], guard := none }
def suI2 : Oper := { dst := some 9, op := Go.Op.fieldAddr 80 (Go.Operand.tmp 1) 1, type := 0, pos := "l09_summary.go:70", after := #[], guard := none }
def suI3 : Oper := { dst := some 10, op := Go.Op.load 57 (Go.Operand.tmp 9), type := 57, pos := "l09_summary.go:70", after := #[{ on := 2, ground := Go.Ground.data }], guard := none }
def suI4 : Oper := { dst := some 11, op := Go.Op.call { callee := Go.Callee.value (Go.Operand.func 32), args := #[Go.Operand.tmp 10], argTypes := #[57] }, type := 45, pos := "l09_summary.go:70", after := #[{ on := 3, ground := Go.Ground.data }], guard := none }
def suI5 : Oper := { dst := some 12, op := Go.Op.fieldAddr 80 (Go.Operand.tmp 1) 1, type := 0, pos := "l09_summary.go:70", after := #[], guard := none }
def suI6 : Oper := { dst := some 13, op := Go.Op.load 57 (Go.Operand.tmp 12), type := 57, pos := "l09_summary.go:70", after := #[{ on := 5, ground := Go.Ground.data }], guard := none }
def suI7 : Oper := { dst := some 14, op := Go.Op.build 142 #[], type := 142, pos := "l09_summary.go:70", after := #[], guard := none }
def suI8 : Oper := { dst := some 15, op := Go.Op.call { callee := Go.Callee.value (Go.Operand.func 112), args := #[Go.Operand.tmp 13, Go.Operand.tmp 14, Go.Operand.func 113], argTypes := #[57, 142, 144] }, type := 142, pos := "l09_summary.go:70", after := #[{ on := 6, ground := Go.Ground.data }, { on := 7, ground := Go.Ground.data }, { on := 4, ground := Go.Ground.chain }], guard := none }
def suI9 : Oper := { dst := some 16, op := Go.Op.call { callee := Go.Callee.value (Go.Operand.func 111), args := #[Go.Operand.tmp 8, Go.Operand.tmp 11, Go.Operand.tmp 15], argTypes := #[3, 45, 142] }, type := 77, pos := "l09_summary.go:70", after := #[{ on := 1, ground := Go.Ground.data }, { on := 4, ground := Go.Ground.data }, { on := 8, ground := Go.Ground.data }, { on := 8, ground := Go.Ground.chain }], guard := none }
def suI10 : Oper := { dst := none, op := Go.Op.store 77 (Go.Operand.tmp 2) (Go.Operand.tmp 16), type := 0, pos := "l09_summary.go:70", after := #[{ on := 9, ground := Go.Ground.data }, { on := 9, ground := Go.Ground.chain }, { on := 0, ground := Go.Ground.phase }, { on := 1, ground := Go.Ground.phase }, { on := 2, ground := Go.Ground.phase }, { on := 3, ground := Go.Ground.phase }, { on := 4, ground := Go.Ground.phase }, { on := 5, ground := Go.Ground.phase }, { on := 6, ground := Go.Ground.phase }, { on := 7, ground := Go.Ground.phase }, { on := 8, ground := Go.Ground.phase }, { on := 9, ground := Go.Ground.phase }], guard := none }
set_option maxRecDepth 8000 in
set_option maxHeartbeats 6400000 in
theorem impl_sumV (id : Int) (ao : Option Addr) (n cap : Nat) (l : List Rw) (w : World) (hl : l.length = n) (hn : n ≤ 1048576) (hV : RowsVal w ao n (Rn l)) :
    Calls Try.prog 51 #[.agg #[.int .i64 id, .slice ao n cap]] w (SmOut (sumB id l).b (sumB id l).c (sumB id l).u (sumB id l).mn (sumB id l).mx (sumB id l).sm (sumB id l).h w) := by
  have BV := fun w hV => impl_bvV id ao n cap (Rn l) w (by omega) hV
  obtain ⟨v, hv⟩ : ∃ v, v = blkB id n (Rn l) := ⟨_, rfl⟩
  simp only [← hv] at BV
  have HBV := Lib.hid BV
  have HV := Lib.hid hV
  have HVV := Lib.hid hv
  clear BV hV hv
  cases v
  · skip
    have hAN := sumB_no (id := id) (l := l) (by rw [hl]; exact HVV.out.symm)
    have hOK : HgOk (histL []) := zero12_ok.1
    have hFC : 0 ≤ (spL []).c ∧ (spL []).c ≤ 2000000 := by decide
    have hRO : ∀ k (hk : k < ([] : List Rw).length), rowB ([] : List Rw)[k].i ([] : List Rw)[k].g ([] : List Rw)[k].y ([] : List Rw)[k].x ([] : List Rw)[k].nl = true := fun k hk => by simp at hk
    obtain ⟨HH, hHH⟩ : ∃ H, H = histL [] := ⟨_, rfl⟩
    obtain ⟨⟨fc, fm, fx, fs⟩, hSP⟩ : ∃ z : Sp, z = spL [] := ⟨_, rfl⟩
    obtain ⟨⟨bb, cc, uu, m1, m2, s1, h9⟩, hSS⟩ : ∃ z : Sm, z = sumOf 0 (histL []) (spL []) := ⟨_, rfl⟩
    have hh9 : h9 = histL [] := by have h := congrArg Sm.h hSS; exact h
    have EB := Lib.hid (show (sumB id l).b = bb by rw [hAN, ← hSS])
    have EC := Lib.hid (show (sumB id l).c = cc by rw [hAN, ← hSS])
    have EU := Lib.hid (show (sumB id l).u = uu by rw [hAN, ← hSS])
    have EM := Lib.hid (show (sumB id l).mn = m1 by rw [hAN, ← hSS])
    have EX := Lib.hid (show (sumB id l).mx = m2 by rw [hAN, ← hSS])
    have ES := Lib.hid (show (sumB id l).sm = s1 by rw [hAN, ← hSS])
    have EH := Lib.hid (show (sumB id l).h = HH by rw [hAN, hHH]; rfl)
    have SO : Hid (∀ (ao : Option Addr) (cap : Nat) (w : World), IntsVal w ao HH → Calls Try.prog 111 #[.int .i64 0, .slice ao HH.length cap, .agg #[.int .i64 fc, .int .i64 fm, .int .i64 fx, .int .i64 fs]] w fun e w' => e = .returned (.agg #[.int .i64 bb, .int .i64 cc, .int .i64 uu, .int .i64 m1, .int .i64 m2, .int .i64 s1, .slice ao HH.length cap]) ∧ Below w.heap.size w w') := (fun ao cap w hV => by
      have h := impl_sumOf 0 ao HH.length cap HH fc fm fx fs w rfl (by rw [hHH, histL_len]; decide) hV (by rw [hHH]; exact hOK) (by have := hFC; rw [← hSP] at this; exact this)
      have e1 : sumOf 0 HH ⟨fc, fm, fx, fs⟩ = ⟨bb, cc, uu, m1, m2, s1, HH⟩ := by rw [hHH, hSP, ← hSS, hh9]
      rw [e1] at h
      exact h : ∀ (ao : Option Addr) (cap : Nat) (w : World), IntsVal w ao HH → Calls Try.prog 111 #[.int .i64 0, .slice ao HH.length cap, .agg #[.int .i64 fc, .int .i64 fm, .int .i64 fx, .int .i64 fs]] w fun e w' => e = .returned (.agg #[.int .i64 bb, .int .i64 cc, .int .i64 uu, .int .i64 m1, .int .i64 m2, .int .i64 s1, .slice ao HH.length cap]) ∧ Below w.heap.size w w')
    have HI := Lib.hid (fun w hV => impl_histV none 0 0 [] w rfl (by decide) hV)
    rw [← hHH] at HI
    have HFO : Hid (∀ w : World, RowsVal w none 0 (Rn []) → Calls Try.prog 112 #[.slice none 0 0, .agg #[.int .i64 0, .int .i64 0, .int .i64 0, .int .i64 0], .func (.func 113) #[] #[]] w fun e w' => e = .returned (.agg #[.int .i64 fc, .int .i64 fm, .int .i64 fx, .int .i64 fs]) ∧ Below w.heap.size w w') := (fun w hV => by
      have h := impl_foldR none 0 0 [] w rfl (by decide) hRO hV
      rw [← hSP] at h
      exact h : ∀ w : World, RowsVal w none 0 (Rn []) → Calls Try.prog 112 #[.slice none 0 0, .agg #[.int .i64 0, .int .i64 0, .int .i64 0, .int .i64 0], .func (.func 113) #[] #[]] w fun e w' => e = .returned (.agg #[.int .i64 fc, .int .i64 fm, .int .i64 fx, .int .i64 fs]) ∧ Below w.heap.size w w')
    clear hSP hSS hh9 hHH hAN hOK hFC hRO
    clear hl
    go_enter Try.func51, Try.ntmps51
    have K0 := ((Kept.start w).alloc2 (.int .i64 id) (.slice ao n cap) 80 _ rfl).alloc7 (.int .i64 0) (.int .i64 0) (.int .i64 0) (.int .i64 0) (.int .i64 0) (.int .i64 0) (.slice none 0 0) 77 (w.heap.size + 1) (by simp)
    go_wp2_with fail
    refine (HBV.out _ (HV.out.below K0.1)).mono ?_
    rintro e w1 ⟨rfl, hb⟩
    have K1 := K0.step hb
    clear hb K0
    have K2 := (K1.sub (l' := [(⟨w.heap.size, 0, none⟩, .int .i64 id), (⟨w.heap.size, 1, none⟩, .slice ao n cap), (⟨w.heap.size + 1, 0, none⟩, .int .i64 0), (⟨w.heap.size + 1, 1, none⟩, .int .i64 0), (⟨w.heap.size + 1, 2, none⟩, .int .i64 0), (⟨w.heap.size + 1, 3, none⟩, .int .i64 0), (⟨w.heap.size + 1, 4, none⟩, .int .i64 0), (⟨w.heap.size + 1, 5, none⟩, .int .i64 0), (⟨w.heap.size + 1, 6, none⟩, .slice none 0 0)]) (by intro p9 hp9; simp only [List.mem_cons, List.not_mem_nil, or_false] at hp9; rcases hp9 with rfl | rfl | rfl | rfl | rfl | rfl | rfl | rfl | rfl <;> simp)).set2' (.int .i64 0) (.slice none 0 0) (Nat.le_refl _) (by simp only [List.mem_cons, List.not_mem_nil, or_false]; rintro c9 (rfl | rfl | rfl | rfl | rfl | rfl | rfl) <;> (dsimp only; omega))
    have q0 := K1.get 7 rfl
    have q1 := K1.get 8 rfl
    have g0 := K1.fz 7 rfl
    have g1 := K1.fz 8 rfl
    go_upto_region 3 with fail
    obtain ⟨w2, hw2⟩ : ∃ x, x = ((w1.setCell ⟨w.heap.size, 0, none⟩ (.int .i64 0)).setCell ⟨w.heap.size, 1, none⟩ (.slice none 0 0)) := ⟨_, rfl⟩
    rw [← hw2] at K2 ⊢
    clear hw2 q0 q1 g0 g1 K1
    have K3 := K2.sub (l' := [(⟨w.heap.size + 1, 0, none⟩, .int .i64 0), (⟨w.heap.size + 1, 1, none⟩, .int .i64 0), (⟨w.heap.size + 1, 2, none⟩, .int .i64 0), (⟨w.heap.size + 1, 3, none⟩, .int .i64 0), (⟨w.heap.size + 1, 4, none⟩, .int .i64 0), (⟨w.heap.size + 1, 5, none⟩, .int .i64 0), (⟨w.heap.size + 1, 6, none⟩, .slice none 0 0), (⟨w.heap.size, 0, none⟩, .int .i64 0), (⟨w.heap.size, 1, none⟩, .slice none 0 0)]) (by intro p9 hp9; simp only [List.mem_cons, List.not_mem_nil, or_false] at hp9; rcases hp9 with rfl | rfl | rfl | rfl | rfl | rfl | rfl | rfl | rfl <;> simp)
    clear K2
    have KDa := K3.drew
    refine wp_region_held_drew (S := fun w' => w'.cell? ⟨w.heap.size, 0, none⟩ = some (.int .i64 0) ∧ w'.cell? ⟨w.heap.size, 1, none⟩ = some (.slice none 0 0)) (by kernel_rfl) (⟨KDa.get 7 rfl, KDa.get 8 rfl⟩) (fun hHeld => ?_)
    obtain ⟨wDa, hx9⟩ : ∃ x, x = w2.drew := ⟨_, rfl⟩
    have BDa := Lib.hid (show Below w2.heap.size w2 w2.drew from (Below.refl _ _).drew)
    rw [← hx9] at KDa hHeld BDa ⊢
    clear hx9
    refine wpAnyH_take (i := 0) (oi := suI0) (v := .pointer (some ⟨w.heap.size, 0, none⟩)) rfl (by kernel_rfl) (by kernel_rfl) (by kernel_rfl) (fun _ _ _ h => h) (Or.inl ⟨by rfl, ?_⟩) (by assumption) ?_
    · intro w8 hS8
      (try dsimp only at hS8)
      dsimp only [suI0]
      (first | (go_simp; done) | (go_simp; simp_all; done) | (simp_all [go_sem]; done))
    try simp only [Act.put, suI0, List.setIfInBounds_toArray, List.set_cons_zero, List.set_cons_succ]
    refine wpAnyH_take (i := 1) (oi := suI1) (v := .int .i64 0) rfl (by kernel_rfl) (by kernel_rfl) (by kernel_rfl) (fun _ _ _ h => h) (Or.inl ⟨by rfl, ?_⟩) (by assumption) ?_
    · intro w8 hS8
      (try dsimp only at hS8)
      dsimp only [suI1]
      (first | (go_simp; done) | (go_simp; simp_all; done) | (simp_all [go_sem]; done))
    try simp only [Act.put, suI1, List.setIfInBounds_toArray, List.set_cons_zero, List.set_cons_succ]
    refine wpAnyH_take (i := 2) (oi := suI2) (v := .pointer (some ⟨w.heap.size, 1, none⟩)) rfl (by kernel_rfl) (by kernel_rfl) (by kernel_rfl) (fun _ _ _ h => h) (Or.inl ⟨by rfl, ?_⟩) (by assumption) ?_
    · intro w8 hS8
      (try dsimp only at hS8)
      dsimp only [suI2]
      (first | (go_simp; done) | (go_simp; simp_all; done) | (simp_all [go_sem]; done))
    try simp only [Act.put, suI2, List.setIfInBounds_toArray, List.set_cons_zero, List.set_cons_succ]
    refine wpAnyH_take (i := 3) (oi := suI3) (v := .slice none 0 0) rfl (by kernel_rfl) (by kernel_rfl) (by kernel_rfl) (fun _ _ _ h => h) (Or.inl ⟨by rfl, ?_⟩) (by assumption) ?_
    · intro w8 hS8
      (try dsimp only at hS8)
      dsimp only [suI3]
      (first | (go_simp; done) | (go_simp; simp_all; done) | (simp_all [go_sem]; done))
    try simp only [Act.put, suI3, List.setIfInBounds_toArray, List.set_cons_zero, List.set_cons_succ]
    refine wpAnyH_take (i := 5) (oi := suI5) (v := .pointer (some ⟨w.heap.size, 1, none⟩)) rfl (by kernel_rfl) (by kernel_rfl) (by kernel_rfl) (fun _ _ _ h => h) (Or.inl ⟨by rfl, ?_⟩) (by assumption) ?_
    · intro w8 hS8
      (try dsimp only at hS8)
      dsimp only [suI5]
      (first | (go_simp; done) | (go_simp; simp_all; done) | (simp_all [go_sem]; done))
    try simp only [Act.put, suI5, List.setIfInBounds_toArray, List.set_cons_zero, List.set_cons_succ]
    refine wpAnyH_take (i := 6) (oi := suI6) (v := .slice none 0 0) rfl (by kernel_rfl) (by kernel_rfl) (by kernel_rfl) (fun _ _ _ h => h) (Or.inl ⟨by rfl, ?_⟩) (by assumption) ?_
    · intro w8 hS8
      (try dsimp only at hS8)
      dsimp only [suI6]
      (first | (go_simp; done) | (go_simp; simp_all; done) | (simp_all [go_sem]; done))
    try simp only [Act.put, suI6, List.setIfInBounds_toArray, List.set_cons_zero, List.set_cons_succ]
    refine wpAnyH_take (i := 7) (oi := suI7) (v := .agg #[.int .i64 0, .int .i64 0, .int .i64 0, .int .i64 0]) rfl (by kernel_rfl) (by kernel_rfl) (by kernel_rfl) (fun _ _ _ h => h) (Or.inl ⟨by rfl, ?_⟩) (by assumption) ?_
    · intro w8 hS8
      (try dsimp only at hS8)
      dsimp only [suI7]
      (first | (go_simp; done) | (go_simp; simp_all; done) | (simp_all [go_sem]; done))
    try simp only [Act.put, suI7, List.setIfInBounds_toArray, List.set_cons_zero, List.set_cons_succ]
    refine wpAnyH_ready (rs := [4]) (by kernel_rfl) (by simp) ?_
    refine AllReadyH.cons (o := suI4) rfl (fun K hK => ?_) AllReadyH.nil
    dsimp only [suI4]
    go_simp
    go_at_call 32
    (with_reducible refine (HI.out _ (rowsVal_nil _ _ _)).mono ?_)
    rintro e9 wca1 ⟨vh, fph, rfl, hsh, hndh, hfh, hba1⟩
    obtain ⟨aoh, ch, rfl, _, hVh⟩ := ints_open hsh
    have KCa1 := KDa.step hba1
    refine hK.out _ _ ?_ (fun hHa1 => ?_)
    · exact ⟨KCa1.get 7 rfl, KCa1.get 8 rfl⟩
    clear hK K
    try simp only [Act.put, suI4, List.setIfInBounds_toArray, List.set_cons_zero, List.set_cons_succ]
    refine wpAnyH_ready (rs := [8]) (by kernel_rfl) (by simp) ?_
    refine AllReadyH.cons (o := suI8) rfl (fun K hK => ?_) AllReadyH.nil
    dsimp only [suI8]
    go_simp
    go_at_call 112
    (with_reducible refine (HFO.out _ (rowsVal_nil _ _ _)).mono ?_)
    rintro e9 wca2 ⟨rfl, hba2⟩
    have KCa2 := KCa1.step hba2
    refine hK.out _ _ ?_ (fun hHa2 => ?_)
    · exact ⟨KCa2.get 7 rfl, KCa2.get 8 rfl⟩
    clear hK K
    try simp only [Act.put, suI8, List.setIfInBounds_toArray, List.set_cons_zero, List.set_cons_succ]
    refine wpAnyH_ready (rs := [9]) (by kernel_rfl) (by simp) ?_
    refine AllReadyH.cons (o := suI9) rfl (fun K hK => ?_) AllReadyH.nil
    dsimp only [suI9]
    go_simp
    go_at_call 111
    (with_reducible refine (SO.out aoh ch _ (hVh.below hba2)).mono ?_)
    rintro e9 wca3 ⟨rfl, hba3⟩
    have KCa3 := KCa2.step hba3
    refine hK.out _ _ ?_ (fun hHa3 => ?_)
    · exact ⟨KCa3.get 7 rfl, KCa3.get 8 rfl⟩
    clear hK K
    try simp only [Act.put, suI9, List.setIfInBounds_toArray, List.set_cons_zero, List.set_cons_succ]
    refine wpAnyH_ready (rs := [10]) (by kernel_rfl) (by simp) ?_
    refine AllReadyH.cons (o := suI10) rfl (fun K hK => ?_) AllReadyH.nil
    have k0 := KCa3.get 0 rfl
    have f0 := KCa3.fz 0 rfl
    have k1 := KCa3.get 1 rfl
    have f1 := KCa3.fz 1 rfl
    have k2 := KCa3.get 2 rfl
    have f2 := KCa3.fz 2 rfl
    have k3 := KCa3.get 3 rfl
    have f3 := KCa3.fz 3 rfl
    have k4 := KCa3.get 4 rfl
    have f4 := KCa3.fz 4 rfl
    have k5 := KCa3.get 5 rfl
    have f5 := KCa3.fz 5 rfl
    have k6 := KCa3.get 6 rfl
    have f6 := KCa3.fz 6 rfl
    dsimp only [suI10]
    go_simp
    have KCa4 := KCa3.setB7 (.int .i64 bb) (.int .i64 cc) (.int .i64 uu) (.int .i64 m1) (.int .i64 m2) (.int .i64 s1) (.slice aoh HH.length ch) (by omega) (by simp only [List.mem_cons, List.not_mem_nil, or_false]; rintro c9 (rfl | rfl) <;> (dsimp only; omega))
    refine hK.out _ _ ?_ (fun hHa4 => ?_)
    · exact ⟨KCa4.get 7 rfl, KCa4.get 8 rfl⟩
    clear hK K
    try simp only [Act.put, suI10, List.setIfInBounds_toArray, List.set_cons_zero, List.set_cons_succ]
    refine wpAnyH_done (by kernel_rfl) ?_ _
    have HSS := ((hsh.step hba2).step hba3)
    have hfw : ∀ k ∈ fph, w.heap.size + 1 < k := fun k hk => by
      have h1 := hfh k hk
      have h2 := KDa.lt 0 rfl
      simp only at h2
      omega
    have HS9 := Lib.hid (HSS.setB7 (w.heap.size + 1) (.int .i64 bb) (.int .i64 cc) (.int .i64 uu) (.int .i64 m1) (.int .i64 m2) (.int .i64 s1) (.slice aoh HH.length ch) (fun k hk => by have := hfw k hk; omega))
    have HF9 := Lib.hid (show ∀ k ∈ fph, w.heap.size ≤ k from fun k hk => by have := hfw k hk; omega)
    have HK9 := Lib.hid KCa4.1
    have z := KCa4.lt 0 rfl
    have e0 := KCa4.get 0 rfl
    have e1 := KCa4.get 1 rfl
    have e2 := KCa4.get 2 rfl
    have e3 := KCa4.get 3 rfl
    have e4 := KCa4.get 4 rfl
    have e5 := KCa4.get 5 rfl
    have e6 := KCa4.get 6 rfl
    clear k0 k1 k2 k3 k4 k5 k6 f0 f1 f2 f3 f4 f5 f6
    go_wp2
    exact bodyPost_ret (v := .agg #[.int .i64 bb, .int .i64 cc, .int .i64 uu, .int .i64 m1, .int .i64 m2, .int .i64 s1, .slice aoh HH.length ch]) (by simp [results, Try.results51, go_sem, e0, e1, e2, e3, e4, e5, e6, z]) rfl ⟨_, fph, by rw [EB.out, EC.out, EU.out, EM.out, EX.out, ES.out], by rw [EH.out]; exact HS9.out, hndh, HF9.out, HK9.out⟩
  · skip
    have hb9 : blkB id l.length (Rn l) = true := by rw [hl]; exact HVV.out.symm
    have hAN := sumB_of hb9
    obtain ⟨_, hb2, hb3⟩ := blkB_of hb9
    have hRO := rows_ok hb2
    have hOK := (hist_ok hRO hb3).1
    have hFC : 0 ≤ (spL l).c ∧ (spL l).c ≤ 2000000 := by
      have h := spL_bound hRO l.length (Nat.le_refl _)
      rw [List.take_length] at h
      have h1 := h.1
      have h2 := h.2.1
      omega
    obtain ⟨HH, hHH⟩ : ∃ H, H = histL l := ⟨_, rfl⟩
    obtain ⟨⟨fc, fm, fx, fs⟩, hSP⟩ : ∃ z : Sp, z = spL l := ⟨_, rfl⟩
    obtain ⟨⟨bb, cc, uu, m1, m2, s1, h9⟩, hSS⟩ : ∃ z : Sm, z = sumOf id (histL l) (spL l) := ⟨_, rfl⟩
    have hh9 : h9 = histL l := by have h := congrArg Sm.h hSS; exact h
    have EB := Lib.hid (show (sumB id l).b = bb by rw [hAN, ← hSS])
    have EC := Lib.hid (show (sumB id l).c = cc by rw [hAN, ← hSS])
    have EU := Lib.hid (show (sumB id l).u = uu by rw [hAN, ← hSS])
    have EM := Lib.hid (show (sumB id l).mn = m1 by rw [hAN, ← hSS])
    have EX := Lib.hid (show (sumB id l).mx = m2 by rw [hAN, ← hSS])
    have ES := Lib.hid (show (sumB id l).sm = s1 by rw [hAN, ← hSS])
    have EH := Lib.hid (show (sumB id l).h = HH by rw [hAN, hHH]; rfl)
    have SO : Hid (∀ (ao : Option Addr) (cap : Nat) (w : World), IntsVal w ao HH → Calls Try.prog 111 #[.int .i64 id, .slice ao HH.length cap, .agg #[.int .i64 fc, .int .i64 fm, .int .i64 fx, .int .i64 fs]] w fun e w' => e = .returned (.agg #[.int .i64 bb, .int .i64 cc, .int .i64 uu, .int .i64 m1, .int .i64 m2, .int .i64 s1, .slice ao HH.length cap]) ∧ Below w.heap.size w w') := (fun ao cap w hV => by
      have h := impl_sumOf id ao HH.length cap HH fc fm fx fs w rfl (by rw [hHH, histL_len]; decide) hV (by rw [hHH]; exact hOK) (by have := hFC; rw [← hSP] at this; exact this)
      have e1 : sumOf id HH ⟨fc, fm, fx, fs⟩ = ⟨bb, cc, uu, m1, m2, s1, HH⟩ := by rw [hHH, hSP, ← hSS, hh9]
      rw [e1] at h
      exact h : ∀ (ao : Option Addr) (cap : Nat) (w : World), IntsVal w ao HH → Calls Try.prog 111 #[.int .i64 id, .slice ao HH.length cap, .agg #[.int .i64 fc, .int .i64 fm, .int .i64 fx, .int .i64 fs]] w fun e w' => e = .returned (.agg #[.int .i64 bb, .int .i64 cc, .int .i64 uu, .int .i64 m1, .int .i64 m2, .int .i64 s1, .slice ao HH.length cap]) ∧ Below w.heap.size w w')
    have HI := Lib.hid (fun w hV => impl_histV ao n cap l w hl (by omega) hV)
    rw [← hHH] at HI
    have HFO : Hid (∀ w : World, RowsVal w ao n (Rn l) → Calls Try.prog 112 #[.slice ao n cap, .agg #[.int .i64 0, .int .i64 0, .int .i64 0, .int .i64 0], .func (.func 113) #[] #[]] w fun e w' => e = .returned (.agg #[.int .i64 fc, .int .i64 fm, .int .i64 fx, .int .i64 fs]) ∧ Below w.heap.size w w') := (fun w hV => by
      have h := impl_foldR ao n cap l w hl hn hRO hV
      rw [← hSP] at h
      exact h : ∀ w : World, RowsVal w ao n (Rn l) → Calls Try.prog 112 #[.slice ao n cap, .agg #[.int .i64 0, .int .i64 0, .int .i64 0, .int .i64 0], .func (.func 113) #[] #[]] w fun e w' => e = .returned (.agg #[.int .i64 fc, .int .i64 fm, .int .i64 fx, .int .i64 fs]) ∧ Below w.heap.size w w')
    clear hSP hSS hh9 hHH hAN hOK hFC hRO
    clear hl hb9 hb2 hb3
    go_enter Try.func51, Try.ntmps51
    have K0 := ((Kept.start w).alloc2 (.int .i64 id) (.slice ao n cap) 80 _ rfl).alloc7 (.int .i64 0) (.int .i64 0) (.int .i64 0) (.int .i64 0) (.int .i64 0) (.int .i64 0) (.slice none 0 0) 77 (w.heap.size + 1) (by simp)
    go_wp2_with fail
    refine (HBV.out _ (HV.out.below K0.1)).mono ?_
    rintro e w1 ⟨rfl, hb⟩
    have K1 := K0.step hb
    clear hb K0
    have HV1 := Lib.hid (HV.out.below K1.1)
    go_upto_region 3 with fail
    have KDb := K1.drew
    refine wp_region_held_drew (S := fun w' => w'.cell? ⟨w.heap.size, 0, none⟩ = some (.int .i64 id) ∧ w'.cell? ⟨w.heap.size, 1, none⟩ = some (.slice ao n cap)) (by kernel_rfl) (⟨KDb.get 7 rfl, KDb.get 8 rfl⟩) (fun hHeld => ?_)
    obtain ⟨wDb, hx9⟩ : ∃ x, x = w1.drew := ⟨_, rfl⟩
    have BDb := Lib.hid (show Below w1.heap.size w1 w1.drew from (Below.refl _ _).drew)
    rw [← hx9] at KDb hHeld BDb ⊢
    clear hx9
    refine wpAnyH_take (i := 0) (oi := suI0) (v := .pointer (some ⟨w.heap.size, 0, none⟩)) rfl (by kernel_rfl) (by kernel_rfl) (by kernel_rfl) (fun _ _ _ h => h) (Or.inl ⟨by rfl, ?_⟩) (by assumption) ?_
    · intro w8 hS8
      (try dsimp only at hS8)
      dsimp only [suI0]
      (first | (go_simp; done) | (go_simp; simp_all; done) | (simp_all [go_sem]; done))
    try simp only [Act.put, suI0, List.setIfInBounds_toArray, List.set_cons_zero, List.set_cons_succ]
    refine wpAnyH_take (i := 1) (oi := suI1) (v := .int .i64 id) rfl (by kernel_rfl) (by kernel_rfl) (by kernel_rfl) (fun _ _ _ h => h) (Or.inl ⟨by rfl, ?_⟩) (by assumption) ?_
    · intro w8 hS8
      (try dsimp only at hS8)
      dsimp only [suI1]
      (first | (go_simp; done) | (go_simp; simp_all; done) | (simp_all [go_sem]; done))
    try simp only [Act.put, suI1, List.setIfInBounds_toArray, List.set_cons_zero, List.set_cons_succ]
    refine wpAnyH_take (i := 2) (oi := suI2) (v := .pointer (some ⟨w.heap.size, 1, none⟩)) rfl (by kernel_rfl) (by kernel_rfl) (by kernel_rfl) (fun _ _ _ h => h) (Or.inl ⟨by rfl, ?_⟩) (by assumption) ?_
    · intro w8 hS8
      (try dsimp only at hS8)
      dsimp only [suI2]
      (first | (go_simp; done) | (go_simp; simp_all; done) | (simp_all [go_sem]; done))
    try simp only [Act.put, suI2, List.setIfInBounds_toArray, List.set_cons_zero, List.set_cons_succ]
    refine wpAnyH_take (i := 3) (oi := suI3) (v := .slice ao n cap) rfl (by kernel_rfl) (by kernel_rfl) (by kernel_rfl) (fun _ _ _ h => h) (Or.inl ⟨by rfl, ?_⟩) (by assumption) ?_
    · intro w8 hS8
      (try dsimp only at hS8)
      dsimp only [suI3]
      (first | (go_simp; done) | (go_simp; simp_all; done) | (simp_all [go_sem]; done))
    try simp only [Act.put, suI3, List.setIfInBounds_toArray, List.set_cons_zero, List.set_cons_succ]
    refine wpAnyH_take (i := 5) (oi := suI5) (v := .pointer (some ⟨w.heap.size, 1, none⟩)) rfl (by kernel_rfl) (by kernel_rfl) (by kernel_rfl) (fun _ _ _ h => h) (Or.inl ⟨by rfl, ?_⟩) (by assumption) ?_
    · intro w8 hS8
      (try dsimp only at hS8)
      dsimp only [suI5]
      (first | (go_simp; done) | (go_simp; simp_all; done) | (simp_all [go_sem]; done))
    try simp only [Act.put, suI5, List.setIfInBounds_toArray, List.set_cons_zero, List.set_cons_succ]
    refine wpAnyH_take (i := 6) (oi := suI6) (v := .slice ao n cap) rfl (by kernel_rfl) (by kernel_rfl) (by kernel_rfl) (fun _ _ _ h => h) (Or.inl ⟨by rfl, ?_⟩) (by assumption) ?_
    · intro w8 hS8
      (try dsimp only at hS8)
      dsimp only [suI6]
      (first | (go_simp; done) | (go_simp; simp_all; done) | (simp_all [go_sem]; done))
    try simp only [Act.put, suI6, List.setIfInBounds_toArray, List.set_cons_zero, List.set_cons_succ]
    refine wpAnyH_take (i := 7) (oi := suI7) (v := .agg #[.int .i64 0, .int .i64 0, .int .i64 0, .int .i64 0]) rfl (by kernel_rfl) (by kernel_rfl) (by kernel_rfl) (fun _ _ _ h => h) (Or.inl ⟨by rfl, ?_⟩) (by assumption) ?_
    · intro w8 hS8
      (try dsimp only at hS8)
      dsimp only [suI7]
      (first | (go_simp; done) | (go_simp; simp_all; done) | (simp_all [go_sem]; done))
    try simp only [Act.put, suI7, List.setIfInBounds_toArray, List.set_cons_zero, List.set_cons_succ]
    refine wpAnyH_ready (rs := [4]) (by kernel_rfl) (by simp) ?_
    refine AllReadyH.cons (o := suI4) rfl (fun K hK => ?_) AllReadyH.nil
    dsimp only [suI4]
    go_simp
    go_at_call 32
    (with_reducible refine (HI.out _ (HV.out.below (Kept.below KDb))).mono ?_)
    rintro e9 wcb1 ⟨vh, fph, rfl, hsh, hndh, hfh, hbb1⟩
    obtain ⟨aoh, ch, rfl, _, hVh⟩ := ints_open hsh
    have KCb1 := KDb.step hbb1
    refine hK.out _ _ ?_ (fun hHb1 => ?_)
    · exact ⟨KCb1.get 7 rfl, KCb1.get 8 rfl⟩
    clear hK K
    try simp only [Act.put, suI4, List.setIfInBounds_toArray, List.set_cons_zero, List.set_cons_succ]
    refine wpAnyH_ready (rs := [8]) (by kernel_rfl) (by simp) ?_
    refine AllReadyH.cons (o := suI8) rfl (fun K hK => ?_) AllReadyH.nil
    dsimp only [suI8]
    go_simp
    go_at_call 112
    (with_reducible refine (HFO.out _ (HV.out.below (Kept.below KCb1))).mono ?_)
    rintro e9 wcb2 ⟨rfl, hbb2⟩
    have KCb2 := KCb1.step hbb2
    refine hK.out _ _ ?_ (fun hHb2 => ?_)
    · exact ⟨KCb2.get 7 rfl, KCb2.get 8 rfl⟩
    clear hK K
    try simp only [Act.put, suI8, List.setIfInBounds_toArray, List.set_cons_zero, List.set_cons_succ]
    refine wpAnyH_ready (rs := [9]) (by kernel_rfl) (by simp) ?_
    refine AllReadyH.cons (o := suI9) rfl (fun K hK => ?_) AllReadyH.nil
    dsimp only [suI9]
    go_simp
    go_at_call 111
    (with_reducible refine (SO.out aoh ch _ (hVh.below hbb2)).mono ?_)
    rintro e9 wcb3 ⟨rfl, hbb3⟩
    have KCb3 := KCb2.step hbb3
    refine hK.out _ _ ?_ (fun hHb3 => ?_)
    · exact ⟨KCb3.get 7 rfl, KCb3.get 8 rfl⟩
    clear hK K
    try simp only [Act.put, suI9, List.setIfInBounds_toArray, List.set_cons_zero, List.set_cons_succ]
    refine wpAnyH_ready (rs := [10]) (by kernel_rfl) (by simp) ?_
    refine AllReadyH.cons (o := suI10) rfl (fun K hK => ?_) AllReadyH.nil
    have k0 := KCb3.get 0 rfl
    have f0 := KCb3.fz 0 rfl
    have k1 := KCb3.get 1 rfl
    have f1 := KCb3.fz 1 rfl
    have k2 := KCb3.get 2 rfl
    have f2 := KCb3.fz 2 rfl
    have k3 := KCb3.get 3 rfl
    have f3 := KCb3.fz 3 rfl
    have k4 := KCb3.get 4 rfl
    have f4 := KCb3.fz 4 rfl
    have k5 := KCb3.get 5 rfl
    have f5 := KCb3.fz 5 rfl
    have k6 := KCb3.get 6 rfl
    have f6 := KCb3.fz 6 rfl
    dsimp only [suI10]
    go_simp
    have KCb4 := KCb3.setB7 (.int .i64 bb) (.int .i64 cc) (.int .i64 uu) (.int .i64 m1) (.int .i64 m2) (.int .i64 s1) (.slice aoh HH.length ch) (by omega) (by simp only [List.mem_cons, List.not_mem_nil, or_false]; rintro c9 (rfl | rfl) <;> (dsimp only; omega))
    refine hK.out _ _ ?_ (fun hHb4 => ?_)
    · exact ⟨KCb4.get 7 rfl, KCb4.get 8 rfl⟩
    clear hK K
    try simp only [Act.put, suI10, List.setIfInBounds_toArray, List.set_cons_zero, List.set_cons_succ]
    refine wpAnyH_done (by kernel_rfl) ?_ _
    have HSS := ((hsh.step hbb2).step hbb3)
    have hfw : ∀ k ∈ fph, w.heap.size + 1 < k := fun k hk => by
      have h1 := hfh k hk
      have h2 := KDb.lt 0 rfl
      simp only at h2
      omega
    have HS9 := Lib.hid (HSS.setB7 (w.heap.size + 1) (.int .i64 bb) (.int .i64 cc) (.int .i64 uu) (.int .i64 m1) (.int .i64 m2) (.int .i64 s1) (.slice aoh HH.length ch) (fun k hk => by have := hfw k hk; omega))
    have HF9 := Lib.hid (show ∀ k ∈ fph, w.heap.size ≤ k from fun k hk => by have := hfw k hk; omega)
    have HK9 := Lib.hid KCb4.1
    have z := KCb4.lt 0 rfl
    have e0 := KCb4.get 0 rfl
    have e1 := KCb4.get 1 rfl
    have e2 := KCb4.get 2 rfl
    have e3 := KCb4.get 3 rfl
    have e4 := KCb4.get 4 rfl
    have e5 := KCb4.get 5 rfl
    have e6 := KCb4.get 6 rfl
    clear k0 k1 k2 k3 k4 k5 k6 f0 f1 f2 f3 f4 f5 f6
    go_wp2
    exact bodyPost_ret (v := .agg #[.int .i64 bb, .int .i64 cc, .int .i64 uu, .int .i64 m1, .int .i64 m2, .int .i64 s1, .slice aoh HH.length ch]) (by simp [results, Try.results51, go_sem, e0, e1, e2, e3, e4, e5, e6, z]) rfl ⟨_, fph, by rw [EB.out, EC.out, EU.out, EM.out, EX.out, ES.out], by rw [EH.out]; exact HS9.out, hndh, HF9.out, HK9.out⟩
end Go.Proofs.Ytcfcohnkkgickaa

namespace Go.Proofs.Ytcfcohnkkgickaa
open Go.RowKit Num

/-! What a region keeps: two cells of a box, and a third cell. -/
theorem k2s_start {W w : World} {a0 a1 : Addr} {v0 v1 : Value} (h : Kept W w [(a0, v0), (a1, v1)]) : w.drew.cell? a0 = some v0 ∧ w.drew.cell? a1 = some v1 ∧ Kept W w.drew [(a0, v0), (a1, v1)] :=
  have k := h.drew
  ⟨k.get 0 rfl, k.get 1 rfl, k⟩
theorem k2s_keep {W w w' : World} {a0 a1 : Addr} {v0 v1 : Value} (h : w.cell? a0 = some v0 ∧ w.cell? a1 = some v1 ∧ Kept W w [(a0, v0), (a1, v1)]) (hb : Below w.heap.size w w') : w'.cell? a0 = some v0 ∧ w'.cell? a1 = some v1 ∧ Kept W w' [(a0, v0), (a1, v1)] :=
  have k := h.2.2.step hb
  ⟨k.get 0 rfl, k.get 1 rfl, k⟩
theorem k3s_start {W w : World} {a0 a1 a2 : Addr} {v0 v1 v2 : Value} (h : Kept W w [(a0, v0), (a1, v1)]) (ha : w.cell? a2 = some v2) : w.drew.cell? a0 = some v0 ∧ w.drew.cell? a1 = some v1 ∧ w.drew.cell? a2 = some v2 ∧ Kept W w.drew [(a0, v0), (a1, v1)] :=
  have k := h.drew
  ⟨k.get 0 rfl, k.get 1 rfl, ha, k⟩
theorem k3s_keep {W w w' : World} {a0 a1 a2 : Addr} {v0 v1 v2 : Value} (h : w.cell? a0 = some v0 ∧ w.cell? a1 = some v1 ∧ w.cell? a2 = some v2 ∧ Kept W w [(a0, v0), (a1, v1)]) (hb : Below w.heap.size w w') : w'.cell? a0 = some v0 ∧ w'.cell? a1 = some v1 ∧ w'.cell? a2 = some v2 ∧ Kept W w' [(a0, v0), (a1, v1)] :=
  have k := h.2.2.2.step hb
  ⟨k.get 0 rfl, k.get 1 rfl, by rw [hb.cell (World.block_lt_of_cell? w _ h.2.2.1)]; exact h.2.2.1, k⟩

/-- What areBlocks answers. -/
def AbPost (l : List Blk) (n : Nat) (w : World) (e : Ending) (w' : World) : Prop := ∃ v : Bool, (v = true ↔ BlksOk l n) ∧ e = .returned (.bool v) ∧ Below w.heap.size w w'
theorem AbPost.no {l : List Blk} {n : Nat} {w w' : World} (h : ¬ BlksOk l n) (hb : Below w.heap.size w w') : AbPost l n w (.returned (.bool false)) w' := ⟨false, ⟨(fun h9 => by cases h9), fun k => absurd k h⟩, rfl, hb⟩
theorem AbPost.yes {l : List Blk} {n : Nat} {w w' : World} (h : BlksOk l n) (hb : Below w.heap.size w w') : AbPost l n w (.returned (.bool true)) w' := ⟨true, ⟨fun _ => h, fun _ => rfl⟩, rfl, hb⟩

set_option maxRecDepth 8000 in
set_option maxHeartbeats 6400000 in
theorem impl_ab (ao : Option Addr) (n cap : Nat) (l : List Blk) (w : World) (hl : l.length = n) (hn : n ≤ 1048576) (hr : ∀ k, k < n → (Bn l k).rows.length ≤ 1048576) (hV : BlksVal w ao l) :
    Calls Try.prog 131 #[.slice ao n cap] w (AbPost l n w) := by
  have HV := Lib.hid hV
  have HL := Lib.hid hl
  have HR := Lib.hid hr
  clear hV hl hr
  have hnI : (n : Int) ≤ 1048576 := by omega
  go_enter Try.func131, Try.ntmps131
  go_wp2_with fail
  go_loopw [7] (fun iv wr => ∃ k : Nat, k ≤ n ∧ iv = .int .i64 k ∧ Hid (BlksOk l k) ∧ Hid (Below w.heap.size w wr)) (fun iv _ => n - (intOf iv).toNat)
  case atStart => exact ⟨0, Nat.zero_le _, rfl, Lib.hid (BlksOk.zero l), Below.refl _ _⟩
  case round =>
    obtain ⟨k, hk, rfl, HA, HB⟩ := hrel
    by_cases hlt : k < n
    · have hkI : (k : Int) < (n : Int) := by omega
      obtain ⟨g, rfl, hg, hBk⟩ := HV.out.head HL.out (by omega)
      obtain ⟨rao, rcap, c0, c1, hRV⟩ := (hBk k hlt).below HB.out hg (Nat.le_refl _)
      have hrl := HR.out k hlt
      have HNV := Lib.hid (show bkB l k = false → ¬ BlksOk l n from fun h1 h2 => by have := h2.1 k hlt; rw [h1] at this; cases this)
      have HYV := Lib.hid (show bkB l k = true → (∀ j, j + 1 = k → (Bn l j).id < (Bn l (j + 1)).id) → BlksOk l (k + 1) from fun h1 h2 => HA.out.succ h1 h2)
      have HNO := Lib.hid (show ∀ j, k = j + 1 → ¬ (Bn l j).id < (Bn l k).id → ¬ BlksOk l n from fun j e h1 h2 => by subst e; exact h1 (h2.2 j hlt))
      have D0 := fun w hV => impl_bvV (Bn l k).id rao (Bn l k).rows.length rcap (Rn (Bn l k).rows) w hrl hV
      rw [show blkB (Bn l k).id (Bn l k).rows.length (Rn (Bn l k).rows) = bkB l k from rfl] at D0
      obtain ⟨vb, hvb⟩ : ∃ vb, vb = bkB l k := ⟨_, rfl⟩
      rw [← hvb] at HNV HYV D0
      obtain ⟨bk, hbk⟩ : ∃ bk, bk = Bn l k := ⟨_, rfl⟩
      have HBK := Lib.hid hbk
      rw [← hbk] at c0 c1 hRV hrl HNO D0
      obtain ⟨m, hm⟩ : ∃ m, m = bk.rows.length := ⟨_, rfl⟩
      rw [← hm] at c1 hRV hrl D0
      have hB0 := (Below.refl wr.heap.size wr).alloc (Nat.le_refl _) (.cells #[.int .i64 bk.id, .slice rao m rcap] 80)
      have HRD := Lib.hid (show RowsVal (wr.alloc (.cells #[.int .i64 bk.id, .slice rao m rcap] 80)).drew rao m (Rn bk.rows) from hRV.below hB0.drew)
      have K0 : Kept w (wr.alloc (.cells #[.int .i64 bk.id, .slice rao m rcap] 80)) [(⟨wr.heap.size, 0, none⟩, .int .i64 bk.id), (⟨wr.heap.size, 1, none⟩, .slice rao m rcap)] := Kept.alloc2 (show Kept w wr [] from ⟨HB.out, fun _ h => by cases h⟩) _ _ _ _ rfl
      have HK := Lib.hid K0
      have HPV := Lib.hid hBk
      clear K0 hB0 hRV hvb hbk hm hBk
      cases vb
      · have AN := Lib.hid (HNV.out rfl)
        have DV := Lib.hid D0
        clear D0
        go_wp2_with fail
        refine wp_region_held_drew (S := fun w' => w'.cell? ⟨wr.heap.size, 0, none⟩ = some (.int .i64 bk.id) ∧ w'.cell? ⟨wr.heap.size, 1, none⟩ = some (.slice rao m rcap) ∧ Kept w w' [(⟨wr.heap.size, 0, none⟩, .int .i64 bk.id), (⟨wr.heap.size, 1, none⟩, .slice rao m rcap)]) (by kernel_rfl) (k2s_start HK.out) (fun hHeld => ?_)
        refine wpAnyH_take (i := 0) (oi := { dst := some 12, op := Go.Op.load 80 (Go.Operand.tmp 4), type := 80, pos := "l06_table.go:51", after := #[], guard := none }) (v := .agg #[.int .i64 bk.id, .slice rao m rcap]) rfl (by kernel_rfl) (by kernel_rfl) (by kernel_rfl) (fun _ _ _ h => h) (Or.inl ⟨by rfl, ?_⟩) (by assumption) ?_
        · intro w8 hS8
          (try dsimp only at hS8)
          go_simp
        try simp only [Act.put, List.setIfInBounds_toArray, List.set_cons_zero, List.set_cons_succ]
        refine wpAnyH_ready (rs := [1]) (by kernel_rfl) (by simp) ?_
        refine AllReadyH.cons (o := { dst := some 13, op := Go.Op.call { callee := Go.Callee.value (Go.Operand.func 110), args := #[Go.Operand.tmp 12], argTypes := #[80] }, type := 4, pos := "l06_table.go:51", after := #[{ on := 0, ground := Go.Ground.data }], guard := none }) rfl (fun K hK => ?_) AllReadyH.nil
        go_simp
        go_at_call 110
        (with_reducible refine (DV.out _ HRD.out).mono ?_)
        rintro e9 w9 ⟨rfl, hb⟩
        refine hK.out _ _ ?_ (fun hH1 => ?_)
        · exact k2s_keep hHeld hb
        clear hK K
        try simp only [Act.put, List.setIfInBounds_toArray, List.set_cons_zero, List.set_cons_succ]
        refine wpAnyH_take (i := 2) (oi := { dst := some 14, op := Go.Op.unOp UnOp.not 4 (Go.Operand.tmp 13), type := 4, pos := "l06_table.go:51", after := #[{ on := 1, ground := Go.Ground.data }], guard := none }) (v := .bool true) rfl (by kernel_rfl) (by kernel_rfl) (by kernel_rfl) (fun _ _ _ h => h) (Or.inl ⟨by rfl, ?_⟩) (by assumption) ?_
        · intro w8 hS8
          (try dsimp only at hS8)
          go_simp
        try simp only [Act.put, List.setIfInBounds_toArray, List.set_cons_zero, List.set_cons_succ]
        refine wpAnyH_take (i := 3) (oi := { dst := some 15, op := Go.Op.move (Go.Operand.tmp 14), type := 4, pos := "l06_table.go:51", after := #[{ on := 2, ground := Go.Ground.data }, { on := 1, ground := Go.Ground.chain }], guard := none }) (v := .bool true) rfl (by kernel_rfl) (by kernel_rfl) (by kernel_rfl) (fun _ _ _ h => h) (Or.inl ⟨by rfl, ?_⟩) (by assumption) ?_
        · intro w8 hS8
          (try dsimp only at hS8)
          go_simp
        try simp only [Act.put, List.setIfInBounds_toArray, List.set_cons_zero, List.set_cons_succ]
        refine held_skip (i := 4) (oi := { dst := some 16, op := Go.Op.move (Go.Operand.tmp 3), type := 3, pos := "l06_table.go:51", after := #[{ on := 3, ground := Go.Ground.guard }], guard := some (3, false) }) rfl (by kernel_rfl) (by kernel_rfl) (by kernel_rfl) (fun _ _ _ h => h) (by rfl) (by assumption) ?_
        try simp only [Act.put, List.setIfInBounds_toArray, List.set_cons_zero, List.set_cons_succ]
        refine held_skip (i := 5) (oi := { dst := some 17, op := Go.Op.binOp BinOp.gtr 3 (Go.Operand.tmp 16) (Go.Operand.const (Go.Value.int Go.IntKind.i64 0)) 3, type := 4, pos := "l06_table.go:51", after := #[{ on := 4, ground := Go.Ground.data }, { on := 3, ground := Go.Ground.guard }], guard := some (3, false) }) rfl (by kernel_rfl) (by kernel_rfl) (by kernel_rfl) (fun _ _ _ h => h) (by rfl) (by assumption) ?_
        try simp only [Act.put, List.setIfInBounds_toArray, List.set_cons_zero, List.set_cons_succ]
        refine held_skip (i := 6) (oi := { dst := some 18, op := Go.Op.move (Go.Operand.tmp 17), type := 4, pos := "l06_table.go:51", after := #[{ on := 5, ground := Go.Ground.data }, { on := 3, ground := Go.Ground.chain }, { on := 3, ground := Go.Ground.guard }], guard := some (3, false) }) rfl (by kernel_rfl) (by kernel_rfl) (by kernel_rfl) (fun _ _ _ h => h) (by rfl) (by assumption) ?_
        try simp only [Act.put, List.setIfInBounds_toArray, List.set_cons_zero, List.set_cons_succ]
        refine held_skip (i := 7) (oi := { dst := some 19, op := Go.Op.move (Go.Operand.tmp 0), type := 30, pos := "l06_table.go:51", after := #[{ on := 6, ground := Go.Ground.guard }], guard := some (6, true) }) rfl (by kernel_rfl) (by kernel_rfl) (by kernel_rfl) (fun _ _ _ h => h) (by rfl) (by assumption) ?_
        try simp only [Act.put, List.setIfInBounds_toArray, List.set_cons_zero, List.set_cons_succ]
        refine held_skip (i := 8) (oi := { dst := some 20, op := Go.Op.move (Go.Operand.tmp 3), type := 3, pos := "l06_table.go:51", after := #[{ on := 6, ground := Go.Ground.guard }], guard := some (6, true) }) rfl (by kernel_rfl) (by kernel_rfl) (by kernel_rfl) (fun _ _ _ h => h) (by rfl) (by assumption) ?_
        try simp only [Act.put, List.setIfInBounds_toArray, List.set_cons_zero, List.set_cons_succ]
        refine held_skip (i := 9) (oi := { dst := some 21, op := Go.Op.binOp BinOp.sub 3 (Go.Operand.tmp 20) (Go.Operand.const (Go.Value.int Go.IntKind.i64 1)) 3, type := 3, pos := "l06_table.go:51", after := #[{ on := 8, ground := Go.Ground.data }, { on := 6, ground := Go.Ground.guard }], guard := some (6, true) }) rfl (by kernel_rfl) (by kernel_rfl) (by kernel_rfl) (fun _ _ _ h => h) (by rfl) (by assumption) ?_
        try simp only [Act.put, List.setIfInBounds_toArray, List.set_cons_zero, List.set_cons_succ]
        refine held_skip (i := 10) (oi := { dst := some 22, op := Go.Op.indexAddr 30 (Go.Operand.tmp 19) (Go.Operand.tmp 21), type := 0, pos := "l06_table.go:51", after := #[{ on := 7, ground := Go.Ground.data }, { on := 9, ground := Go.Ground.data }, { on := 6, ground := Go.Ground.guard }], guard := some (6, true) }) rfl (by kernel_rfl) (by kernel_rfl) (by kernel_rfl) (fun _ _ _ h => h) (by rfl) (by assumption) ?_
        try simp only [Act.put, List.setIfInBounds_toArray, List.set_cons_zero, List.set_cons_succ]
        refine held_skip (i := 11) (oi := { dst := some 23, op := Go.Op.fieldAddr 80 (Go.Operand.tmp 22) 0, type := 0, pos := "l06_table.go:51", after := #[{ on := 10, ground := Go.Ground.data }, { on := 6, ground := Go.Ground.guard }], guard := some (6, true) }) rfl (by kernel_rfl) (by kernel_rfl) (by kernel_rfl) (fun _ _ _ h => h) (by rfl) (by assumption) ?_
        try simp only [Act.put, List.setIfInBounds_toArray, List.set_cons_zero, List.set_cons_succ]
        refine held_skip (i := 12) (oi := { dst := some 24, op := Go.Op.load 3 (Go.Operand.tmp 23), type := 3, pos := "l06_table.go:51", after := #[{ on := 11, ground := Go.Ground.data }, { on := 6, ground := Go.Ground.guard }], guard := some (6, true) }) rfl (by kernel_rfl) (by kernel_rfl) (by kernel_rfl) (fun _ _ _ h => h) (by rfl) (by assumption) ?_
        try simp only [Act.put, List.setIfInBounds_toArray, List.set_cons_zero, List.set_cons_succ]
        refine held_skip (i := 13) (oi := { dst := some 25, op := Go.Op.fieldAddr 80 (Go.Operand.tmp 4) 0, type := 0, pos := "l06_table.go:51", after := #[{ on := 6, ground := Go.Ground.guard }], guard := some (6, true) }) rfl (by kernel_rfl) (by kernel_rfl) (by kernel_rfl) (fun _ _ _ h => h) (by rfl) (by assumption) ?_
        try simp only [Act.put, List.setIfInBounds_toArray, List.set_cons_zero, List.set_cons_succ]
        refine held_skip (i := 14) (oi := { dst := some 26, op := Go.Op.load 3 (Go.Operand.tmp 25), type := 3, pos := "l06_table.go:51", after := #[{ on := 13, ground := Go.Ground.data }, { on := 6, ground := Go.Ground.guard }], guard := some (6, true) }) rfl (by kernel_rfl) (by kernel_rfl) (by kernel_rfl) (fun _ _ _ h => h) (by rfl) (by assumption) ?_
        try simp only [Act.put, List.setIfInBounds_toArray, List.set_cons_zero, List.set_cons_succ]
        refine held_skip (i := 15) (oi := { dst := some 27, op := Go.Op.binOp BinOp.geq 3 (Go.Operand.tmp 24) (Go.Operand.tmp 26) 3, type := 4, pos := "l06_table.go:51", after := #[{ on := 12, ground := Go.Ground.data }, { on := 14, ground := Go.Ground.data }, { on := 6, ground := Go.Ground.guard }], guard := some (6, true) }) rfl (by kernel_rfl) (by kernel_rfl) (by kernel_rfl) (fun _ _ _ h => h) (by rfl) (by assumption) ?_
        try simp only [Act.put, List.setIfInBounds_toArray, List.set_cons_zero, List.set_cons_succ]
        refine held_skip (i := 16) (oi := { dst := some 28, op := Go.Op.pick (Go.Operand.tmp 18) (Go.Operand.tmp 27) (Go.Operand.const (Go.Value.bool false)), type := 4, pos := "l06_table.go:51", after := #[{ on := 6, ground := Go.Ground.data }, { on := 15, ground := Go.Ground.data }, { on := 3, ground := Go.Ground.guard }], guard := some (3, false) }) rfl (by kernel_rfl) (by kernel_rfl) (by kernel_rfl) (fun _ _ _ h => h) (by rfl) (by assumption) ?_
        try simp only [Act.put, List.setIfInBounds_toArray, List.set_cons_zero, List.set_cons_succ]
        refine wpAnyH_take (i := 17) (oi := { dst := some 29, op := Go.Op.pick (Go.Operand.tmp 15) (Go.Operand.const (Go.Value.bool true)) (Go.Operand.tmp 28), type := 4, pos := "l06_table.go:51", after := #[{ on := 3, ground := Go.Ground.data }, { on := 16, ground := Go.Ground.data }], guard := none }) (v := .bool true) rfl (by kernel_rfl) (by kernel_rfl) (by kernel_rfl) (fun _ _ _ h => h) (Or.inl ⟨by rfl, ?_⟩) (by assumption) ?_
        · intro w8 hS8
          (try dsimp only at hS8)
          go_simp
        try simp only [Act.put, List.setIfInBounds_toArray, List.set_cons_zero, List.set_cons_succ]
        refine wpAnyH_done (by kernel_rfl) ?_ _
        go_wp2
        go_ret
        exact AbPost.no AN.out hH1.2.2.1
      · have DV := Lib.hid D0
        clear D0
        by_cases h0 : k = 0
        · have hz : decide ((0 : Int) < (k : Int)) = false := decide_eq_false (by omega)
          have H0 := Lib.hid h0
          have AN := Lib.hid (HYV.out rfl (fun j e => by omega))
          clear h0
          go_wp2_with fail
          refine wp_region_held_drew (S := fun w' => w'.cell? ⟨wr.heap.size, 0, none⟩ = some (.int .i64 bk.id) ∧ w'.cell? ⟨wr.heap.size, 1, none⟩ = some (.slice rao m rcap) ∧ Kept w w' [(⟨wr.heap.size, 0, none⟩, .int .i64 bk.id), (⟨wr.heap.size, 1, none⟩, .slice rao m rcap)]) (by kernel_rfl) (k2s_start HK.out) (fun hHeld => ?_)
          refine wpAnyH_take (i := 0) (oi := { dst := some 12, op := Go.Op.load 80 (Go.Operand.tmp 4), type := 80, pos := "l06_table.go:51", after := #[], guard := none }) (v := .agg #[.int .i64 bk.id, .slice rao m rcap]) rfl (by kernel_rfl) (by kernel_rfl) (by kernel_rfl) (fun _ _ _ h => h) (Or.inl ⟨by rfl, ?_⟩) (by assumption) ?_
          · intro w8 hS8
            (try dsimp only at hS8)
            go_simp
          try simp only [Act.put, List.setIfInBounds_toArray, List.set_cons_zero, List.set_cons_succ]
          refine wpAnyH_ready (rs := [1]) (by kernel_rfl) (by simp) ?_
          refine AllReadyH.cons (o := { dst := some 13, op := Go.Op.call { callee := Go.Callee.value (Go.Operand.func 110), args := #[Go.Operand.tmp 12], argTypes := #[80] }, type := 4, pos := "l06_table.go:51", after := #[{ on := 0, ground := Go.Ground.data }], guard := none }) rfl (fun K hK => ?_) AllReadyH.nil
          go_simp
          go_at_call 110
          (with_reducible refine (DV.out _ HRD.out).mono ?_)
          rintro e9 w9 ⟨rfl, hb⟩
          refine hK.out _ _ ?_ (fun hH1 => ?_)
          · exact k2s_keep hHeld hb
          clear hK K
          try simp only [Act.put, List.setIfInBounds_toArray, List.set_cons_zero, List.set_cons_succ]
          refine wpAnyH_take (i := 2) (oi := { dst := some 14, op := Go.Op.unOp UnOp.not 4 (Go.Operand.tmp 13), type := 4, pos := "l06_table.go:51", after := #[{ on := 1, ground := Go.Ground.data }], guard := none }) (v := .bool false) rfl (by kernel_rfl) (by kernel_rfl) (by kernel_rfl) (fun _ _ _ h => h) (Or.inl ⟨by rfl, ?_⟩) (by assumption) ?_
          · intro w8 hS8
            (try dsimp only at hS8)
            go_simp
          try simp only [Act.put, List.setIfInBounds_toArray, List.set_cons_zero, List.set_cons_succ]
          refine wpAnyH_take (i := 3) (oi := { dst := some 15, op := Go.Op.move (Go.Operand.tmp 14), type := 4, pos := "l06_table.go:51", after := #[{ on := 2, ground := Go.Ground.data }, { on := 1, ground := Go.Ground.chain }], guard := none }) (v := .bool false) rfl (by kernel_rfl) (by kernel_rfl) (by kernel_rfl) (fun _ _ _ h => h) (Or.inl ⟨by rfl, ?_⟩) (by assumption) ?_
          · intro w8 hS8
            (try dsimp only at hS8)
            go_simp
          try simp only [Act.put, List.setIfInBounds_toArray, List.set_cons_zero, List.set_cons_succ]
          refine wpAnyH_take (i := 4) (oi := { dst := some 16, op := Go.Op.move (Go.Operand.tmp 3), type := 3, pos := "l06_table.go:51", after := #[{ on := 3, ground := Go.Ground.guard }], guard := some (3, false) }) (v := .int .i64 k) rfl (by kernel_rfl) (by kernel_rfl) (by kernel_rfl) (fun _ _ _ h => h) (Or.inl ⟨by rfl, ?_⟩) (by assumption) ?_
          · intro w8 hS8
            (try dsimp only at hS8)
            go_simp
          try simp only [Act.put, List.setIfInBounds_toArray, List.set_cons_zero, List.set_cons_succ]
          refine wpAnyH_take (i := 5) (oi := { dst := some 17, op := Go.Op.binOp BinOp.gtr 3 (Go.Operand.tmp 16) (Go.Operand.const (Go.Value.int Go.IntKind.i64 0)) 3, type := 4, pos := "l06_table.go:51", after := #[{ on := 4, ground := Go.Ground.data }, { on := 3, ground := Go.Ground.guard }], guard := some (3, false) }) (v := .bool false) rfl (by kernel_rfl) (by kernel_rfl) (by kernel_rfl) (fun _ _ _ h => h) (Or.inl ⟨by rfl, ?_⟩) (by assumption) ?_
          · intro w8 hS8
            (try dsimp only at hS8)
            (first | (go_simp; done) | (go_simp; exact H0.out))
          try simp only [Act.put, List.setIfInBounds_toArray, List.set_cons_zero, List.set_cons_succ]
          refine wpAnyH_take (i := 6) (oi := { dst := some 18, op := Go.Op.move (Go.Operand.tmp 17), type := 4, pos := "l06_table.go:51", after := #[{ on := 5, ground := Go.Ground.data }, { on := 3, ground := Go.Ground.chain }, { on := 3, ground := Go.Ground.guard }], guard := some (3, false) }) (v := .bool false) rfl (by kernel_rfl) (by kernel_rfl) (by kernel_rfl) (fun _ _ _ h => h) (Or.inl ⟨by rfl, ?_⟩) (by assumption) ?_
          · intro w8 hS8
            (try dsimp only at hS8)
            go_simp
          try simp only [Act.put, List.setIfInBounds_toArray, List.set_cons_zero, List.set_cons_succ]
          refine held_skip (i := 7) (oi := { dst := some 19, op := Go.Op.move (Go.Operand.tmp 0), type := 30, pos := "l06_table.go:51", after := #[{ on := 6, ground := Go.Ground.guard }], guard := some (6, true) }) rfl (by kernel_rfl) (by kernel_rfl) (by kernel_rfl) (fun _ _ _ h => h) (by rfl) (by assumption) ?_
          try simp only [Act.put, List.setIfInBounds_toArray, List.set_cons_zero, List.set_cons_succ]
          refine held_skip (i := 8) (oi := { dst := some 20, op := Go.Op.move (Go.Operand.tmp 3), type := 3, pos := "l06_table.go:51", after := #[{ on := 6, ground := Go.Ground.guard }], guard := some (6, true) }) rfl (by kernel_rfl) (by kernel_rfl) (by kernel_rfl) (fun _ _ _ h => h) (by rfl) (by assumption) ?_
          try simp only [Act.put, List.setIfInBounds_toArray, List.set_cons_zero, List.set_cons_succ]
          refine held_skip (i := 9) (oi := { dst := some 21, op := Go.Op.binOp BinOp.sub 3 (Go.Operand.tmp 20) (Go.Operand.const (Go.Value.int Go.IntKind.i64 1)) 3, type := 3, pos := "l06_table.go:51", after := #[{ on := 8, ground := Go.Ground.data }, { on := 6, ground := Go.Ground.guard }], guard := some (6, true) }) rfl (by kernel_rfl) (by kernel_rfl) (by kernel_rfl) (fun _ _ _ h => h) (by rfl) (by assumption) ?_
          try simp only [Act.put, List.setIfInBounds_toArray, List.set_cons_zero, List.set_cons_succ]
          refine held_skip (i := 10) (oi := { dst := some 22, op := Go.Op.indexAddr 30 (Go.Operand.tmp 19) (Go.Operand.tmp 21), type := 0, pos := "l06_table.go:51", after := #[{ on := 7, ground := Go.Ground.data }, { on := 9, ground := Go.Ground.data }, { on := 6, ground := Go.Ground.guard }], guard := some (6, true) }) rfl (by kernel_rfl) (by kernel_rfl) (by kernel_rfl) (fun _ _ _ h => h) (by rfl) (by assumption) ?_
          try simp only [Act.put, List.setIfInBounds_toArray, List.set_cons_zero, List.set_cons_succ]
          refine held_skip (i := 11) (oi := { dst := some 23, op := Go.Op.fieldAddr 80 (Go.Operand.tmp 22) 0, type := 0, pos := "l06_table.go:51", after := #[{ on := 10, ground := Go.Ground.data }, { on := 6, ground := Go.Ground.guard }], guard := some (6, true) }) rfl (by kernel_rfl) (by kernel_rfl) (by kernel_rfl) (fun _ _ _ h => h) (by rfl) (by assumption) ?_
          try simp only [Act.put, List.setIfInBounds_toArray, List.set_cons_zero, List.set_cons_succ]
          refine held_skip (i := 12) (oi := { dst := some 24, op := Go.Op.load 3 (Go.Operand.tmp 23), type := 3, pos := "l06_table.go:51", after := #[{ on := 11, ground := Go.Ground.data }, { on := 6, ground := Go.Ground.guard }], guard := some (6, true) }) rfl (by kernel_rfl) (by kernel_rfl) (by kernel_rfl) (fun _ _ _ h => h) (by rfl) (by assumption) ?_
          try simp only [Act.put, List.setIfInBounds_toArray, List.set_cons_zero, List.set_cons_succ]
          refine held_skip (i := 13) (oi := { dst := some 25, op := Go.Op.fieldAddr 80 (Go.Operand.tmp 4) 0, type := 0, pos := "l06_table.go:51", after := #[{ on := 6, ground := Go.Ground.guard }], guard := some (6, true) }) rfl (by kernel_rfl) (by kernel_rfl) (by kernel_rfl) (fun _ _ _ h => h) (by rfl) (by assumption) ?_
          try simp only [Act.put, List.setIfInBounds_toArray, List.set_cons_zero, List.set_cons_succ]
          refine held_skip (i := 14) (oi := { dst := some 26, op := Go.Op.load 3 (Go.Operand.tmp 25), type := 3, pos := "l06_table.go:51", after := #[{ on := 13, ground := Go.Ground.data }, { on := 6, ground := Go.Ground.guard }], guard := some (6, true) }) rfl (by kernel_rfl) (by kernel_rfl) (by kernel_rfl) (fun _ _ _ h => h) (by rfl) (by assumption) ?_
          try simp only [Act.put, List.setIfInBounds_toArray, List.set_cons_zero, List.set_cons_succ]
          refine held_skip (i := 15) (oi := { dst := some 27, op := Go.Op.binOp BinOp.geq 3 (Go.Operand.tmp 24) (Go.Operand.tmp 26) 3, type := 4, pos := "l06_table.go:51", after := #[{ on := 12, ground := Go.Ground.data }, { on := 14, ground := Go.Ground.data }, { on := 6, ground := Go.Ground.guard }], guard := some (6, true) }) rfl (by kernel_rfl) (by kernel_rfl) (by kernel_rfl) (fun _ _ _ h => h) (by rfl) (by assumption) ?_
          try simp only [Act.put, List.setIfInBounds_toArray, List.set_cons_zero, List.set_cons_succ]
          refine wpAnyH_take (i := 16) (oi := { dst := some 28, op := Go.Op.pick (Go.Operand.tmp 18) (Go.Operand.tmp 27) (Go.Operand.const (Go.Value.bool false)), type := 4, pos := "l06_table.go:51", after := #[{ on := 6, ground := Go.Ground.data }, { on := 15, ground := Go.Ground.data }, { on := 3, ground := Go.Ground.guard }], guard := some (3, false) }) (v := .bool false) rfl (by kernel_rfl) (by kernel_rfl) (by kernel_rfl) (fun _ _ _ h => h) (Or.inl ⟨by rfl, ?_⟩) (by assumption) ?_
          · intro w8 hS8
            (try dsimp only at hS8)
            go_simp
          try simp only [Act.put, List.setIfInBounds_toArray, List.set_cons_zero, List.set_cons_succ]
          refine wpAnyH_take (i := 17) (oi := { dst := some 29, op := Go.Op.pick (Go.Operand.tmp 15) (Go.Operand.const (Go.Value.bool true)) (Go.Operand.tmp 28), type := 4, pos := "l06_table.go:51", after := #[{ on := 3, ground := Go.Ground.data }, { on := 16, ground := Go.Ground.data }], guard := none }) (v := .bool false) rfl (by kernel_rfl) (by kernel_rfl) (by kernel_rfl) (fun _ _ _ h => h) (Or.inl ⟨by rfl, ?_⟩) (by assumption) ?_
          · intro w8 hS8
            (try dsimp only at hS8)
            go_simp
          try simp only [Act.put, List.setIfInBounds_toArray, List.set_cons_zero, List.set_cons_succ]
          refine wpAnyH_done (by kernel_rfl) ?_ _
          have HG2 := Lib.hid hH1.2.2
          go_wp2
          go_roundw
          case rel => exact ⟨k + 1, by omega, by go_num, AN, HG2.out.1⟩
          case measure => simp [intOf]; omega
        · obtain ⟨j, hm⟩ : ∃ j, k = j + 1 := ⟨k - 1, by omega⟩
          obtain ⟨_, _, p0, _, _⟩ := HPV.out j (by omega)
          have HLT := Lib.hid (show (Bn l j).id < bk.id → BlksOk l (k + 1) from fun h1 => HYV.out rfl (fun i e => by
            obtain rfl : i = j := by omega
            rw [e, ← HBK.out]; exact h1))
          have HGE := Lib.hid (HNO.out j hm)
          obtain ⟨pid, hpid⟩ : ∃ p, p = (Bn l j).id := ⟨_, rfl⟩
          rw [← hpid] at p0 HLT HGE
          have HM := Lib.hid (show (wr.alloc (.cells #[.int .i64 bk.id, .slice rao m rcap] 80)).cell? ⟨g, j * 2, none⟩ = some (.int .i64 pid) from cell_alloc_some _ ((HB.out.cell (p := ⟨g, j * 2, none⟩) hg).trans p0))
          have hz : 0 < k := by omega
          have hw9 : IntKind.i64.wrap ((k : Int) - 1) = (j : Int) := by rw [IntWalk.i64_in _ (by omega)]; omega
          have hmI : (j : Int) < (n : Int) := by omega
          have hm0 : (0 : Int) ≤ (j : Int) := by omega
          have HMK := Lib.hid hm
          clear h0 p0 hpid
          by_cases hl : pid < bk.id
          · have hq : decide (bk.id ≤ pid) = false := decide_eq_false (by omega)
            have AN := Lib.hid (HLT.out hl)
            clear hl hm
            go_wp2_with fail
            (first | go_region_held3 (fun w' => w'.cell? ⟨wr.heap.size, 0, none⟩ = some (.int .i64 bk.id) ∧ w'.cell? ⟨wr.heap.size, 1, none⟩ = some (.slice rao m rcap) ∧ w'.cell? ⟨g, j * 2, none⟩ = some (.int .i64 pid) ∧ Kept w w' [(⟨wr.heap.size, 0, none⟩, .int .i64 bk.id), (⟨wr.heap.size, 1, none⟩, .slice rao m rcap)]) (first | assumption | exact k3s_start HK.out HM.out | exact k3s_keep (by assumption) (by assumption)) (first | (go_simp; go_at_call 110; (with_reducible refine (DV.out _ ?_).mono ?_); (exact HRD.out); rintro e9 w9 ⟨rfl, hb⟩)) | fail)
            all_goals
              have HG2 := Lib.hid (‹_ ∧ _ ∧ _ ∧ Kept w w9 _›.2.2.2)
              clear hw9
              go_wp2
              go_roundw
              case rel => exact ⟨k + 1, by omega, by go_num, AN, HG2.out.1⟩
              case measure => simp [intOf]; omega
          · have hq : decide (bk.id ≤ pid) = true := decide_eq_true (by omega)
            have AN := Lib.hid (HGE.out hl)
            clear hl hm
            go_wp2_with fail
            (first | go_region_held3 (fun w' => w'.cell? ⟨wr.heap.size, 0, none⟩ = some (.int .i64 bk.id) ∧ w'.cell? ⟨wr.heap.size, 1, none⟩ = some (.slice rao m rcap) ∧ w'.cell? ⟨g, j * 2, none⟩ = some (.int .i64 pid) ∧ Kept w w' [(⟨wr.heap.size, 0, none⟩, .int .i64 bk.id), (⟨wr.heap.size, 1, none⟩, .slice rao m rcap)]) (first | assumption | exact k3s_start HK.out HM.out | exact k3s_keep (by assumption) (by assumption)) (first | (go_simp; go_at_call 110; (with_reducible refine (DV.out _ ?_).mono ?_); (exact HRD.out); rintro e9 w9 ⟨rfl, hb⟩)) | fail)
            all_goals
              have HG2 := Lib.hid (‹_ ∧ _ ∧ _ ∧ Kept w w9 _›.2.2.2)
              clear hw9
              go_wp2
              go_ret
              exact AbPost.no AN.out HG2.out.1
    · obtain rfl : k = n := by omega
      have hsd : decide ((k : Int) < (k : Int)) = false := decide_eq_false (by omega)
      go_wp2
      go_ret
      exact AbPost.yes HA.out HB.out
end Go.Proofs.Ytcfcohnkkgickaa
