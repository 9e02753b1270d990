/-
  The walk over the project's DecodeHex.
-/
import Derived.Test.YtmdakincddeccaaDoorRows
import Derived.Test.YtmdakincddeccaaDoorBytesOwn
import Derived.Test.YtmdakincddeccaaDoorVarPlain
import Derived.Test.YtmdakincddeccaaDoorDhPlain
import Derived.WalkKit
import Derived.WalkSpells
import Derived.WalkLawsBesides
import Derived.Lib.OthersKept
import Derived.Laws.RangeAny
namespace Go.Proofs.YtmdakincddeccaaDoor
open Go.RowKit

/-- 'a<<4 | b' of two digits. -/
theorem or16 (a b : Int) (h0 : 0 ≤ a) (h1 : a ≤ 15) (h2 : 0 ≤ b) (h3 : b ≤ 15) : bits .or .i64 (a * 16) b = 16 * a + b := by
  obtain ⟨x, rfl⟩ := Int.eq_ofNat_of_zero_le h0
  obtain ⟨y, rfl⟩ := Int.eq_ofNat_of_zero_le h2
  have e : ((x : Int) * 16) = ((x * 2 ^ 4 : Nat) : Int) := by omega
  rw [e, Num.i64_or_nat _ _ (by omega) (by omega), Num.nat_or_join _ _ 4 (by omega)]
  omega

theorem Bts.iterAt {w : World} {B : Nat} {v : Value} {l : List UInt8} (h : Bts w B v l) {k : Nat} {s : ByteArray} {pos : Nat} (hk : w.heap[k]? = some (.stringIter s pos)) (pos' : Nat) : Bts (w.iterAt k s pos') B v l := by
  refine ⟨h.1, ?_⟩
  rcases h.2 with hn | ⟨g, cap, cur, rfl, hb, hgg, rest⟩
  · exact .inl hn
  · refine .inr ⟨g, cap, cur, rfl, hb, ?_, rest⟩
    rw [Lib.iterAt_other]
    · exact hgg
    · rintro rfl
      rw [hgg] at hk
      cases hk

/-- Where the walk stands ahead of the rune at pos: an even place: all pairs before it are read; an odd one: besides, the digit before it is 'high'. -/
def DhAt (s : ByteArray) (pos : Nat) (acc : List UInt8) (high : Int) : Prop :=
  (pos % 2 = 0 ∧ 2 * acc.length = pos ∧ decH s.data.toList = (decH (s.data.toList.drop pos)).map (acc ++ ·)) ∨
  (∃ (q : Nat) (hq : q < s.size), pos = q + 1 ∧ pos % 2 = 1 ∧ 2 * acc.length = q ∧ high = hv s[q].toNat ∧ 0 ≤ high ∧ decH s.data.toList = (decH (s.data.toList.drop q)).map (acc ++ ·))

theorem DhAt.len {s : ByteArray} {pos : Nat} {acc : List UInt8} {high : Int} (h : DhAt s pos acc high) : 2 * acc.length ≤ pos := by
  rcases h with h | ⟨q, hq, h⟩ <;> omega

theorem DhAt.none {s : ByteArray} {pos : Nat} {acc : List UInt8} {high : Int} (h : DhAt s pos acc high) (he : s.size % 2 = 0) (hp : pos < s.size) (hneg : hv s[pos].toNat < 0) : dhV s = .tuple #[.string ⟨#[]⟩, .bool false] := by
  have hlen : s.data.toList.length = s.size := by simp
  rcases h with ⟨h0, h1, h2⟩ | ⟨q, hq, rfl, h0, h1, h2, h3, h4⟩
  · exact dhV_none (dh_none h2 (by omega) (.inl hneg))
  · exact dhV_none (dh_none h4 (by omega) (.inr hneg))

theorem DhAt.even {s : ByteArray} {pos : Nat} {acc : List UInt8} {high : Int} (h : DhAt s pos acc high) (he : pos % 2 = 0) (hp : pos < s.size) (hn : 0 ≤ hv s[pos].toNat) : DhAt s (pos + 1) acc (hv s[pos].toNat) := by
  rcases h with ⟨h0, h1, h2⟩ | ⟨q, hq, rfl, h0, h1, h2, h3, h4⟩
  · exact .inr ⟨pos, hp, rfl, by omega, h1, rfl, hn, h2⟩
  · omega

theorem DhAt.odd {s : ByteArray} {pos : Nat} {acc : List UInt8} {high : Int} (h : DhAt s pos acc high) (he : pos % 2 = 1) (hp : pos < s.size) (hn : 0 ≤ hv s[pos].toNat) :
    0 ≤ high ∧ high ≤ 15 ∧ DhAt s (pos + 1) (acc ++ [UInt8.ofNat (16 * high + hv s[pos].toNat).toNat]) high := by
  have hlen : s.data.toList.length = s.size := by simp
  rcases h with ⟨h0, h1, h2⟩ | ⟨q, hq, rfl, h0, h1, rfl, h3, h4⟩
  · omega
  · exact ⟨h3, (hv_bd _).2, .inl ⟨by omega, by simp; omega, dh_step h4 (by omega) h3 hn⟩⟩

theorem DhAt.fin {s : ByteArray} {pos : Nat} {acc : List UInt8} {high : Int} (h : DhAt s pos acc high) (he : s.size % 2 = 0) (hp : ¬ pos < s.size) (hle : pos ≤ s.size) : dhV s = .tuple #[.string ⟨acc.toArray⟩, .bool true] := by
  have hlen : s.data.toList.length = s.size := by simp
  rcases h with ⟨h0, h1, h2⟩ | ⟨q, hq, rfl, h0, h1, h2, h3, h4⟩
  · exact dhV_some (dh_end h2 (by omega))
  · omega

set_option maxHeartbeats 3200000 in
theorem impl_dh (s : ByteArray) (w : World) (hb : s.size ≤ 1048576) :
    Calls Tryd.prog 20 #[.string s] w fun e w' => e = .returned (dhV s) ∧ Below w.heap.size w w' := by
  have hlen : s.data.toList.length = s.size := by simp
  by_cases hodd : s.size % 2 = 1
  · have hq : ((s.size : Int) % 2 != 0) = true := by simp; omega
    have HD : Hid (dhV s = .tuple #[.string ⟨#[]⟩, .bool false]) := dhV_none (decH_odd _ (by omega))
    clear hodd hlen
    go_enter Tryd.func20, Tryd.ntmps20
    go_wp2
    go_ret2
    exact ⟨by rw [HD.out]; rfl, Below.refl _ _⟩
  · have hq : ((s.size : Int) % 2 != 0) = false := by simp; omega
    have HP : Hid (s.size % 2 = 0) := (show _ = _ from by omega)
    clear hodd hlen
    go_enter Tryd.func20, Tryd.ntmps20
    go_wp2_with (first | (at_make; refine wpList_make0_bytes rfl _ _ rfl w.heap.size _ _ _ (s.size / 2) rfl rfl (by omega) (by omega) (Nat.le_refl _) (Below.refl _ _) ?_; intro w1 hown hbel1))
    go_loopw [4, 5] (fun ov hh wr => ∃ (pos : Nat) (acc : List UInt8) (high : Int), hh = .int .i64 high ∧ pos ≤ s.size ∧ Hid (DhAt s pos acc high) ∧ Bts wr w.heap.size ov acc ∧ Hid (wr.heap[w1.heap.size]? = some (.stringIter s pos)) ∧ Below w.heap.size w wr) (fun _ _ wr => s.size + 1 - wr.iterPos w1.heap.size)
    case atStart => exact ⟨0, [], 0, rfl, by omega, .inl ⟨rfl, rfl, by simp⟩, hown.alloc _, World.iter_heap _ _ _, hbel1.alloc hbel1.size _⟩
    case round =>
      have hI1 : w.heap.size ≤ w1.heap.size := hbel1.size
      clear hown hbel1
      obtain ⟨pos, acc, high, rfl, hle, HA, hown, hit, hbel⟩ := hrel
      have hal := HA.out.len
      by_cases hp : pos < s.size
      · have hbyte : s[pos].toNat < 256 := s[pos].toNat_lt
        by_cases hA : s[pos].toNat < 128
        · have hnx : ∀ ty, (Instr.next (.pointer (some ⟨w1.heap.size, 0, none⟩)) true ty).run Tryd.prog wr = _ := fun ty => Lib.run_next_ascii_at wr w1.heap.size s pos ty hit.out hp hA
          have hown2 := hown.iterAt hit.out (pos + 1)
          have hit2 : Hid _ := Lib.iterAt_heap wr w1.heap.size s pos (pos + 1) hit.out
          have hbel2 := Lib.below_iterAt hbel hI1 s (pos + 1)
          have hsz2 : w.heap.size ≤ _ := hbel2.size
          have hbd := hv_bd s[pos].toNat
          by_cases hn : hv s[pos].toNat < 0
          · have HE : Hid (dhV s = .tuple #[.string ⟨#[]⟩, .bool false]) := HA.out.none HP.out hp hn
            go_wp2_with (first | (go_at_call 29; refine (hexValue_any _ _ (by omega) (by omega)).mono ?_; rintro e w' ⟨rfl, rfl⟩))
            go_ret2
            exact ⟨by rw [HE.out]; rfl, hbel2⟩
          · have hn' : 0 ≤ hv s[pos].toNat := by omega
            by_cases he : pos % 2 = 0
            · have hpar : ((pos : Int) % 2 == 0) = true := by simp; omega
              have HA2 : Hid (DhAt s (pos + 1) acc (hv s[pos].toNat)) := HA.out.even he hp hn'
              clear he hn
              go_wp2_with (first | (go_at_call 29; refine (hexValue_any _ _ (by omega) (by omega)).mono ?_; rintro e w' ⟨rfl, rfl⟩))
              go_roundw
              case rel => exact ⟨pos + 1, acc, _, rfl, by omega, HA2.out, hown2, hit2.out, hbel2⟩
              case measure =>
                have h2 := hit2.out
                have h1 := hit.out
                simp only [World.iterPos, h2, h1]
                omega
            · have hpar : ((pos : Int) % 2 == 0) = false := by simp; omega
              obtain ⟨g0, g1, g2⟩ := HA.out.odd (by omega) hp hn'
              have HA2 : Hid (DhAt s (pos + 1) (acc ++ [UInt8.ofNat (16 * high + hv s[pos].toNat).toNat]) high) := g2
              have hor := or16 high (hv s[pos].toNat) g0 g1 hn' hbd.2
              clear he hn g2
              go_wp2_with (first | (go_at_call 29; refine (hexValue_any _ _ (by omega) (by omega)).mono ?_; rintro e w' ⟨rfl, rfl⟩) | (at_builtin; refine wpList_append_bytes_it rfl _ _ rfl w.heap.size _ acc [UInt8.ofNat (16 * high + hv s[pos].toNat).toNat] rfl hown2 _ (bcells_one _ _ (by rw [Num.u8n _ (by omega)] <;> omega)) 1 1 rfl rfl (by simp; omega) hsz2 hbel2 ?_; intro v' w2 hown' hbel' hkeep))
              go_roundw
              case rel => exact ⟨pos + 1, _, high, rfl, by omega, HA2.out, hown', hkeep _ _ _ hit2.out, hbel'⟩
              case measure =>
                have h2 := hkeep _ _ _ hit2.out
                have h1 := hit.out
                simp only [World.iterPos, h2, h1]
                omega
        · have hnx : ∀ ty, (Instr.next (.pointer (some ⟨w1.heap.size, 0, none⟩)) true ty).run Tryd.prog wr = _ := fun ty => Lib.run_next_any_at wr w1.heap.size s pos ty hit.out hp
          have hd1 := decode_le s pos
          have hdh := (decode_high s pos hp (by omega)).1
          have hm : hv ((Utf8.decode s pos).1 : Int) = -1 := hv_high _ (by omega)
          have hneg : hv s[pos].toNat < 0 := by rw [hv_high _ (by omega)]; decide
          have HE : Hid (dhV s = .tuple #[.string ⟨#[]⟩, .bool false]) := HA.out.none HP.out hp hneg
          have hbel2 := Lib.below_iterAt hbel hI1 s (pos + (Utf8.decode s pos).2)
          clear hneg
          go_wp2_with (first | (go_at_call 29; refine (hexValue_any _ _ (by omega) (by omega)).mono ?_; rintro e w' ⟨rfl, rfl⟩))
          go_ret2
          exact ⟨by rw [HE.out]; rfl, hbel2⟩
      · have hnx : ∀ ty, (Instr.next (.pointer (some ⟨w1.heap.size, 0, none⟩)) true ty).run Tryd.prog wr = _ := fun ty => Lib.run_next_end_at wr w1.heap.size s pos ty hit.out hp
        have HE : Hid (dhV s = .tuple #[.string ⟨acc.toArray⟩, .bool true]) := HA.out.fin HP.out hp hle
        have hcv := hown.str
        go_wp2
        go_ret2
        exact ⟨by rw [HE.out]; rfl, hbel⟩
end Go.Proofs.YtmdakincddeccaaDoor
