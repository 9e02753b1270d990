/-
  The contracts of l1Num, l1Text.
-/
import Derived.Test.YtmdakincddeccaaDoorRows
import Derived.Test.YtmdakincddeccaaDoorDrawNew
import Derived.Test.YtmdakincddeccaaDoorBytesOwn
import Derived.WalkKit
import Derived.WalkSpells
import Derived.WalkLawsBesides
import Derived.IntWalk
import Derived.Lib.Hide
namespace Go.Proofs.YtmdakincddeccaaDoor
open Go.RowKit

theorem ints_new (w : World) (zs : List Int) (hz : ∀ z ∈ zs, IsI64 z) : Ints (w.alloc (.cells (zs.map (Value.int .i64)).toArray 3)) w.heap.size zs.length := by
  refine ⟨by simp, fun j hj => ⟨zs[j], hz _ (List.getElem_mem _), ?_⟩⟩
  rw [cell_of_row _ w.heap.size j _ 3 (0, 0) (heap_alloc_new w _)]
  simp [hj]

/-- What a draw leaves, without the frame of single blocks. -/
def NumPost (W : World) (B b : Nat) (ao : Option Addr) (n cap : Nat) (P : Int → Prop) (e : Ending) (w' : World) : Prop :=
  ∃ x : Int, P x ∧ e = .returned (.int .i64 x) ∧ Cur W B b ao n cap w'

theorem edges_i64 : ∀ z ∈ [(-1 : Int), 0, 127, 128, 255, 256, 16383, 16384, 65535, 65536, 562949953421311, 562949953421312, 999999999, 1000000000, -999999999, 9223372036854775807, -9223372036854775808], IsI64 z := by
  unfold IsI64
  decide

set_option maxRecDepth 8000 in
set_option maxHeartbeats 3200000 in
theorem l1Num_any (W : World) (B b : Nat) (ao : Option Addr) (n cap : Nat) (w : World) (hc : Cur W B b ao n cap w) :
    Calls Tryd.prog 24 #[.pointer (some ⟨b, 0, none⟩)] w (NumPost W B b ao n cap IsI64) := by
  go_enter Tryd.func24, Tryd.ntmps24
  go_wp2_with fail
  refine (l1Below_any W B b ao n cap 8 _ hc (by omega) (by omega)).mono ?_
  rintro e w1 ⟨r, ⟨hr0, hr1⟩, rfl, hc1, _⟩
  clear hc
  have hb1 : b < w1.heap.size := hc1.2.1
  rcases (show r = 0 ∨ r = 1 ∨ r = 2 ∨ 3 ≤ r from by omega) with rfl | rfl | rfl | h3
  · go_wp2_with fail
    refine (l1PickInt_any W B b ao n cap w1.heap.size 17 17 _ (hc1.alloc _) (ints_new w1 _ edges_i64) (by omega) (by omega) (by omega)).mono ?_
    rintro e w2 ⟨x, hx, rfl, hc2, _⟩
    go_wp2
    go_ret
    exact ⟨_, hx, rfl, hc2⟩
  · go_wp2_with fail
    refine (l1Below_any W B b ao n cap 1000000000 _ hc1 (by omega) (by omega)).mono ?_
    rintro e w2 ⟨x, ⟨hx0, hx1⟩, rfl, hc2, _⟩
    go_wp2_with fail
    refine (l1Below_any W B b ao n cap 1000000000 _ hc2 (by omega) (by omega)).mono ?_
    rintro e w3 ⟨y, ⟨hy0, hy1⟩, rfl, hc3, _⟩
    have hxy : 0 ≤ x * y ∧ x * y ≤ 1000000000000000000 := by
      have h1 : 0 ≤ x * y := Int.mul_nonneg hx0 hy0
      have h2 : x * y ≤ 1000000000 * 1000000000 := Int.mul_le_mul (by omega) (by omega) hy0 (by omega)
      omega
    have e1 : wrap64 (x * y) = x * y := IntWalk.wrap64_in _ (by omega)
    go_wp2_with fail
    go_ret
    exact ⟨x * y, ⟨by omega, by omega⟩, by rfl, hc3⟩
  · go_wp2_with fail
    refine (l1Below_any W B b ao n cap 100000 _ hc1 (by omega) (by omega)).mono ?_
    rintro e w2 ⟨x, ⟨hx0, hx1⟩, rfl, hc2, _⟩
    go_wp2_with fail
    go_ret
    exact ⟨-x, ⟨by omega, by omega⟩, rfl, hc2⟩
  · have e0 : (r == 0) = false := beq_eq_false_iff_ne.2 (by omega)
    have e1 : (r == 1) = false := beq_eq_false_iff_ne.2 (by omega)
    have e2 : (r == 2) = false := beq_eq_false_iff_ne.2 (by omega)
    go_wp2_with fail
    refine (l1Below_any W B b ao n cap 70000 _ hc1 (by omega) (by omega)).mono ?_
    rintro e w2 ⟨x, ⟨hx0, hx1⟩, rfl, hc2, _⟩
    go_wp2_with fail
    go_ret
    exact ⟨x, ⟨by omega, by omega⟩, rfl, hc2⟩

/-- What a drawn text leaves. -/
def TextPost (W : World) (B b : Nat) (ao : Option Addr) (n cap : Nat) (most : Nat) (e : Ending) (w' : World) : Prop :=
  ∃ s : ByteArray, s.size ≤ most ∧ e = .returned (.string s) ∧ Cur W B b ao n cap w'

set_option maxRecDepth 8000 in
set_option maxHeartbeats 3200000 in
theorem l1Text_any (W : World) (B b : Nat) (ao : Option Addr) (n cap : Nat) (most : Nat) (w : World) (hc : Cur W B b ao n cap w) (hm : most ≤ 100000) :
    Calls Tryd.prog 25 #[.pointer (some ⟨b, 0, none⟩), .int .i64 most] w (TextPost W B b ao n cap most) := by
  have hBw : B ≤ w.heap.size := Nat.le_trans hc.1 (Nat.le_of_lt hc.2.1)
  have hbw : b < w.heap.size := hc.2.1
  have hmI : (most : Int) ≤ 100000 := by omega
  have H0 := Lib.hid hc
  clear hc
  go_enter Tryd.func25, Tryd.ntmps25
  go_wp2_with fail
  refine (l1Below_any W B b ao n cap 4 _ (H0.out.alloc _) (by omega) (by omega)).mono ?_
  rintro e wa ⟨st, ⟨hst0, hst1⟩, rfl, hca, hga⟩
  have hLit : Bts wa w.heap.size (.slice (some ⟨w.heap.size, 0, none⟩) 0 0) [] := (Bts.lit w w.heap.size (Nat.le_refl _)).kept hga hbw
  have hsa : w.heap.size < wa.heap.size := by have := hga.size; simp at this; omega
  clear hga
  go_wp2_with fail
  refine (l1Below_any W B b ao n cap _ _ hca (by omega) (by omega)).mono ?_
  rintro e wb ⟨r, ⟨hr0, hr1⟩, rfl, hcb, hgb⟩
  have hLit2 := Lib.hid (hLit.kept hgb hbw)
  have hsb : w.heap.size < wb.heap.size := Nat.lt_of_lt_of_le hsa hgb.size
  clear hgb hLit hca
  obtain ⟨r, rfl⟩ := Int.eq_ofNat_of_zero_le hr0
  have HCB := Lib.hid hcb
  clear hcb
  go_wp2_with fail
  go_loopw [5, 7, 8] (fun ov nv _ wr => ∃ (m : Nat) (acc : List UInt8), nv = .int .i64 m ∧ acc.length + m ≤ most ∧ Bts wr w.heap.size ov acc ∧ w.heap.size ≤ wr.heap.size ∧ Cur W B b ao n cap wr) (fun _ nv _ _ => (intOf nv).toNat)
  case atStart => exact ⟨r, [], rfl, by simp; omega, hLit2.out, Nat.le_of_lt hsb, HCB.out⟩
  case round =>
    obtain ⟨m, acc, rfl, hl, hown, hsz, hcr⟩ := hrel
    by_cases h0 : m = 0
    · subst h0
      have hcv := hown.str
      go_wp2
      go_ret
      exact ⟨_, by simp [ByteArray.size]; omega, rfl, hcr⟩
    · obtain ⟨m, rfl⟩ : ∃ q, m = q + 1 := ⟨m - 1, by omega⟩
      have hI : (0 : Int) < ((m + 1 : Nat) : Int) := by omega
      rcases (show st = 1 ∨ st = 2 ∨ (st ≠ 1 ∧ st ≠ 2) from by omega) with rfl | rfl | ⟨e1, e2⟩
      · go_wp2_with (first | (go_at_call 33; refine (l1Byte_any W B b ao n cap _ hcr).mono ?_; rintro e w1 ⟨x, ⟨hx0, hx1⟩, rfl, hc1, hg1⟩; have hown1 := hown.kept hg1 hbw; have hsz1 := Nat.le_trans hsz hg1.size) | (at_builtin; refine wpList_append_bytes_g rfl _ _ rfl w.heap.size _ acc [UInt8.ofNat (x % 2).toNat] rfl hown1 _ (bcells_one _ _ (u8_int _ (by omega) (by omega))) 1 1 rfl rfl (by simp; omega) hsz1 (Below.refl _ _) ?_; intro v' w2 hown' _ hg2; have hc2 := (hc1.alloc _).kept hg2 (hown1.own_ne hbw).1 (fun k hk => Nat.le_trans hBw ((hown1.own_ne hbw).2 k hk)); have hsz2 : w.heap.size ≤ w2.heap.size := Nat.le_trans (by simp; omega) hg2.size))
        go_roundw
        case rel => exact ⟨m, _, by go_num, by simp; omega, hown', hsz2, hc2⟩
        case measure => simp [intOf]
      · go_wp2_with (first | (go_at_call 33; refine (l1Byte_any W B b ao n cap _ hcr).mono ?_; rintro e w1 ⟨x, ⟨hx0, hx1⟩, rfl, hc1, hg1⟩; have hown1 := hown.kept hg1 hbw; have hsz1 := Nat.le_trans hsz hg1.size) | (at_builtin; refine wpList_append_bytes_g rfl _ _ rfl w.heap.size _ acc [UInt8.ofNat (97 + x % 4).toNat] rfl hown1 _ (bcells_one _ _ (u8_int _ (by omega) (by omega))) 1 1 rfl rfl (by simp; omega) hsz1 (Below.refl _ _) ?_; intro v' w2 hown' _ hg2; have hc2 := (hc1.alloc _).kept hg2 (hown1.own_ne hbw).1 (fun k hk => Nat.le_trans hBw ((hown1.own_ne hbw).2 k hk)); have hsz2 : w.heap.size ≤ w2.heap.size := Nat.le_trans (by simp; omega) hg2.size))
        go_roundw
        case rel => exact ⟨m, _, by go_num, by simp; omega, hown', hsz2, hc2⟩
        case measure => simp [intOf]
      · have e3 : (st == 1) = false := beq_eq_false_iff_ne.2 e1
        have e4 : (st == 2) = false := beq_eq_false_iff_ne.2 e2
        clear e1 e2
        go_wp2_with (first | (go_at_call 33; refine (l1Byte_any W B b ao n cap _ hcr).mono ?_; rintro e w1 ⟨x, ⟨hx0, hx1⟩, rfl, hc1, hg1⟩; have hown1 := hown.kept hg1 hbw; have hsz1 := Nat.le_trans hsz hg1.size) | (at_builtin; refine wpList_append_bytes_g rfl _ _ rfl w.heap.size _ acc [UInt8.ofNat (x).toNat] rfl hown1 _ (bcells_one _ _ (u8_int _ (by omega) (by omega))) 1 1 rfl rfl (by simp; omega) hsz1 (Below.refl _ _) ?_; intro v' w2 hown' _ hg2; have hc2 := (hc1.alloc _).kept hg2 (hown1.own_ne hbw).1 (fun k hk => Nat.le_trans hBw ((hown1.own_ne hbw).2 k hk)); have hsz2 : w.heap.size ≤ w2.heap.size := Nat.le_trans (by simp; omega) hg2.size))
        go_roundw
        case rel => exact ⟨m, _, by go_num, by simp; omega, hown', hsz2, hc2⟩
        case measure => simp [intOf]
end Go.Proofs.YtmdakincddeccaaDoor
