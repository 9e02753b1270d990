/-
  The walk over the project's ParseInt.
-/
import Derived.Test.YtndebdimjlfepaaDoorRows
import Derived.Test.YtndebdimjlfepaaDoorPlain
import Derived.Test.YtndebdimjlfepaaDoorPiSpec
import Derived.Test.YtndebdimjlfepaaDoorItoaKit
import Derived.Test.YtndebdimjlfepaaDoorShelf
import Derived.WalkKit
import Derived.WalkSpells
import Derived.WalkLawsBesides
import Derived.IntWalk
import Derived.Lib.Strings
import Derived.Lib.OthersKept
import Derived.Lib.Hide
import Derived.Laws.RangeAny
namespace Go.Proofs.YtndebdimjlfepaaDoor
open Go.RowKit Num

def cpD (s : ByteArray) : ByteArray := ⟨(Lib.trimPrefix s.data.toList [45]).toArray⟩
def cpN (s : ByteArray) : Bool := Lib.hasPrefix s.data.toList [45]

theorem cut_cp (s : ByteArray) : Cut s.data.toList (cpD s).data.toList (cpN s) := by
  unfold cpD cpN Lib.trimPrefix Lib.hasPrefix
  cases hl : s.data.toList with
  | nil => exact .inr ⟨rfl, rfl, by simp⟩
  | cons b r =>
    by_cases hb : b = 45
    · subst hb; exact .inl ⟨by simp [List.isPrefixOf], by simp [List.isPrefixOf]⟩
    · have h' : ([45] : List UInt8).isPrefixOf (b :: r) = false := by simp [List.isPrefixOf]; exact fun e => hb e.symm
      refine .inr ⟨h', ?_, ?_⟩
      · rw [h']; rfl
      · rw [h']; simpa using hb

theorem cp_any (s : ByteArray) (w : World) : Calls Tryd.prog 75 #[.string s, .string ⟨#[45]⟩] w fun e w' => e = .returned (.tuple #[.string (cpD s), .bool (cpN s)]) ∧ w' = w :=
  (Tryd.strings_CutPrefix s ⟨#[45]⟩ w)

theorem cut_size {l d : List UInt8} {neg : Bool} (h : Cut l d neg) : d.length ≤ l.length := by
  rcases h with ⟨_, rfl⟩ | ⟨_, rfl, _⟩
  · simp
  · exact Nat.le_refl _

/-- Where the walk stands ahead of the byte at pos: all before it are digits. -/
def PiAt (d : ByteArray) (pos : Nat) : Prop := ∀ b ∈ d.data.toList.take pos, isD b

theorem PiAt.next {d : ByteArray} {pos : Nat} (h : PiAt d pos) (hp : pos < d.size) (hd : isD d[pos]) : PiAt d (pos + 1) := by
  intro b hb
  rw [takeS_snoc d pos hp, List.mem_append] at hb
  rcases hb with hb | hb
  · exact h b hb
  · rw [List.mem_singleton] at hb; subst hb; exact hd

theorem val_bd9 {d : ByteArray} {pos : Nat} (h : PiAt d pos) (hp : pos ≤ 9) : val (d.data.toList.take pos) ≤ 999999999 := by
  have := val_bd 9 _ h (by rw [List.length_take]; omega)
  have e : (10 : Nat) ^ 9 = 1000000000 := by decide
  omega

theorem pi_bad {l : List UInt8} {d : ByteArray} {neg : Bool} (hc : Cut l d.data.toList neg) {pos : Nat} (hp : pos < d.size) (hd : ¬ isD d[pos]) : PIans l 0 false := by
  refine pi_none hc fun u h1 h2 _ => hd ?_
  refine dec_all u _ ?_
  rw [← h2]
  have : d.data.toList[pos]'(by simpa using hp) = d[pos] := rfl
  rw [← this]
  exact List.getElem_mem _

theorem pi_wide {l d : List UInt8} {neg : Bool} (hc : Cut l d neg) (h9 : 9 < d.length) : PIans l 0 false := by
  refine pi_none hc fun u h1 h2 _ => ?_
  have := dec_len9 u h1
  rw [← h2] at this
  omega

theorem pi_end {l : List UInt8} {d : ByteArray} {neg : Bool} (hc : Cut l d.data.toList neg) (h : PiAt d d.size) (h9 : d.size ≤ 9) :
    (l = Lib.itoa (sg neg (val (d.data.toList.take d.size))) → PIans l (sg neg (val (d.data.toList.take d.size))) true) ∧ (¬ l = Lib.itoa (sg neg (val (d.data.toList.take d.size))) → PIans l 0 false) := by
  have ht : d.data.toList.take d.size = d.data.toList := List.take_of_length_le (by simp)
  unfold PiAt at h
  rw [ht] at h
  obtain ⟨e1, e2⟩ := cut_fold hc h
  rw [ht, ← e1]
  exact ⟨fun he => pi_yes (by rw [e2]; simpa using h9) he, fun he => pi_other hc he⟩

set_option maxRecDepth 8000 in
set_option maxHeartbeats 3200000 in
theorem impl_pi_at (s d : ByteArray) (neg : Bool) (w : World) (hcp : Hid (∀ w, Calls Tryd.prog 75 #[.string s, .string ⟨#[45]⟩] w fun e w' => e = .returned (.tuple #[.string d, .bool neg]) ∧ w' = w))
    (HC : Hid (Cut s.data.toList d.data.toList neg)) (HT : Hid (PowTab w)) :
    Calls Tryd.prog 45 #[.string s] w (PiPost s w) := by
  by_cases h9 : d.size ≤ 9
  · have h9I : (d.size : Int) ≤ 9 := by omega
    have h9B : decide ((9 : Int) < (d.size : Int)) = false := decide_eq_false (by omega)
    cases neg
    case false =>
      go_enter Tryd.func45, Tryd.ntmps45
      go_wp2_with (first | (go_at_call 75; refine (hcp.out _).mono ?_; rintro e w2 ⟨rfl, h⟩; obtain rfl := h.symm))
      go_loopw [6] (fun nv wr => ∃ pos : Nat, nv = .int .i64 (val (d.data.toList.take pos) : Nat) ∧ pos ≤ d.size ∧ Hid (PiAt d pos) ∧ Hid (wr.heap[w.heap.size]? = some (.stringIter d pos)) ∧ Below w.heap.size w wr) (fun _ wr => d.size + 1 - wr.iterPos w.heap.size)
      case atStart => exact ⟨0, rfl, Nat.zero_le _, fun b hb => by simp at hb, World.iter_heap _ _ _, (Below.refl _ _).alloc (Nat.le_refl _) _⟩
      case round =>
        obtain ⟨pos, rfl, hle, HA, hit, hbel⟩ := hrel
        have hv := val_bd9 HA.out (by omega)
        have hvI : ((val (d.data.toList.take pos) : Nat) : Int) ≤ 999999999 := by omega
        by_cases hp : pos < d.size
        · have hbyte : d[pos].toNat < 256 := d[pos].toNat_lt
          have hbel2 : ∀ q, Below w.heap.size w (wr.iterAt w.heap.size d q) := fun q => Lib.below_iterAt hbel (Nat.le_refl _) d q
          by_cases hd : isD d[pos]
          · have hnx : ∀ ty, (Instr.next (.pointer (some ⟨w.heap.size, 0, none⟩)) true ty).run Tryd.prog wr = _ := fun ty => Lib.run_next_ascii_at wr w.heap.size d pos ty hit.out hp (by have := hd.2; omega)
            have hit2 : Hid _ := Lib.iterAt_heap wr w.heap.size d pos (pos + 1) hit.out
            have HA2 : Hid (PiAt d (pos + 1)) := HA.out.next hp hd
            have HV : Hid (val (d.data.toList.take (pos + 1)) = val (d.data.toList.take pos) * 10 + (d[pos].toNat - 48)) := (show _ = _ from by rw [takeS_snoc d pos hp, val_snoc])
            have hb2 := Lib.hid (hbel2 (pos + 1))
            have hd1 : (48 : Int) ≤ (d[pos].toNat : Int) := by have := hd.1; omega
            have hd2 : (d[pos].toNat : Int) ≤ 57 := by have := hd.2; omega
            clear hd hbel2
            go_wp2
            go_roundw
            case rel => exact ⟨pos + 1, by rw [HV.out]; go_num, by omega, HA2.out, hit2.out, hb2.out⟩
            case measure =>
              have h2 := hit2.out
              have h1 := hit.out
              simp only [World.iterPos, h2, h1]
              omega
          · have ANS : Hid (PIans s.data.toList 0 false) := pi_bad HC.out hp hd
            have hb2 := Lib.hid hbel2
            clear hbel2
            by_cases hA : d[pos].toNat < 128
            · have hnx : ∀ ty, (Instr.next (.pointer (some ⟨w.heap.size, 0, none⟩)) true ty).run Tryd.prog wr = _ := fun ty => Lib.run_next_ascii_at wr w.heap.size d pos ty hit.out hp hA
              unfold isD at hd
              by_cases hd1 : (d[pos].toNat : Int) < 48
              · clear hd
                go_wp2
                go_ret2
                exact ⟨⟨_, _, ANS.out, rfl⟩, hb2.out _⟩
              · have hd2 : (57 : Int) < (d[pos].toNat : Int) := by omega
                clear hd
                go_wp2
                go_ret2
                exact ⟨⟨_, _, ANS.out, rfl⟩, hb2.out _⟩
            · have hnx : ∀ ty, (Instr.next (.pointer (some ⟨w.heap.size, 0, none⟩)) true ty).run Tryd.prog wr = _ := fun ty => Lib.run_next_any_at wr w.heap.size d pos ty hit.out hp
              have hd1 := decode_le d pos
              have hdh := (decode_high d pos hp (by omega)).1
              have hd3 : ¬ ((Utf8.decode d pos).1 : Int) < 48 := by omega
              have hd4 : (57 : Int) < ((Utf8.decode d pos).1 : Int) := by omega
              clear hd
              go_wp2
              go_ret2
              exact ⟨⟨_, _, ANS.out, rfl⟩, hb2.out _⟩
        · obtain rfl : pos = d.size := by omega
          have hnx : ∀ ty, (Instr.next (.pointer (some ⟨w.heap.size, 0, none⟩)) true ty).run Tryd.prog wr = _ := fun ty => Lib.run_next_end_at wr w.heap.size d d.size ty hit.out hp
          obtain ⟨y1, y2⟩ := pi_end HC.out HA.out h9
          have HT2 : Hid (PowTab wr) := HT.out.below hbel (Nat.le_refl _)
          have hsz : w.heap.size ≤ _ := hbel.size
          by_cases he : s.data.toList = Lib.itoa ((val (d.data.toList.take d.size) : Nat) : Int)
          · have hq : (Lib.itoa ((val (d.data.toList.take d.size) : Nat) : Int) == s.toList) = true := by rw [eq_bytes, decide_eq_true he]
            have ANS : Hid (PIans s.data.toList ((val (d.data.toList.take d.size) : Nat) : Int) true) := y1 he
            clear he y1 y2
            go_wp2_with (first | (go_at_call 40; refine (impl_fi _ _ (by omega) (by omega) HT2.out).mono ?_; rintro e w3 ⟨rfl, hb3⟩))
            go_ret2
            exact ⟨⟨_, _, ANS.out, rfl⟩, hbel.trans (hb3.mono hsz)⟩
          · have hq : (Lib.itoa ((val (d.data.toList.take d.size) : Nat) : Int) == s.toList) = false := by rw [eq_bytes, decide_eq_false he]
            have ANS : Hid (PIans s.data.toList 0 false) := y2 he
            clear he y1 y2
            go_wp2_with (first | (go_at_call 40; refine (impl_fi _ _ (by omega) (by omega) HT2.out).mono ?_; rintro e w3 ⟨rfl, hb3⟩))
            go_ret2
            exact ⟨⟨_, _, ANS.out, rfl⟩, hbel.trans (hb3.mono hsz)⟩
    case true =>
      go_enter Tryd.func45, Tryd.ntmps45
      go_wp2_with (first | (go_at_call 75; refine (hcp.out _).mono ?_; rintro e w2 ⟨rfl, h⟩; obtain rfl := h.symm))
      go_loopw [6] (fun nv wr => ∃ pos : Nat, nv = .int .i64 (val (d.data.toList.take pos) : Nat) ∧ pos ≤ d.size ∧ Hid (PiAt d pos) ∧ Hid (wr.heap[w.heap.size]? = some (.stringIter d pos)) ∧ Below w.heap.size w wr) (fun _ wr => d.size + 1 - wr.iterPos w.heap.size)
      case atStart => exact ⟨0, rfl, Nat.zero_le _, fun b hb => by simp at hb, World.iter_heap _ _ _, (Below.refl _ _).alloc (Nat.le_refl _) _⟩
      case round =>
        obtain ⟨pos, rfl, hle, HA, hit, hbel⟩ := hrel
        have hv := val_bd9 HA.out (by omega)
        have hvI : ((val (d.data.toList.take pos) : Nat) : Int) ≤ 999999999 := by omega
        by_cases hp : pos < d.size
        · have hbyte : d[pos].toNat < 256 := d[pos].toNat_lt
          have hbel2 : ∀ q, Below w.heap.size w (wr.iterAt w.heap.size d q) := fun q => Lib.below_iterAt hbel (Nat.le_refl _) d q
          by_cases hd : isD d[pos]
          · have hnx : ∀ ty, (Instr.next (.pointer (some ⟨w.heap.size, 0, none⟩)) true ty).run Tryd.prog wr = _ := fun ty => Lib.run_next_ascii_at wr w.heap.size d pos ty hit.out hp (by have := hd.2; omega)
            have hit2 : Hid _ := Lib.iterAt_heap wr w.heap.size d pos (pos + 1) hit.out
            have HA2 : Hid (PiAt d (pos + 1)) := HA.out.next hp hd
            have HV : Hid (val (d.data.toList.take (pos + 1)) = val (d.data.toList.take pos) * 10 + (d[pos].toNat - 48)) := (show _ = _ from by rw [takeS_snoc d pos hp, val_snoc])
            have hb2 := Lib.hid (hbel2 (pos + 1))
            have hd1 : (48 : Int) ≤ (d[pos].toNat : Int) := by have := hd.1; omega
            have hd2 : (d[pos].toNat : Int) ≤ 57 := by have := hd.2; omega
            clear hd hbel2
            go_wp2
            go_roundw
            case rel => exact ⟨pos + 1, by rw [HV.out]; go_num, by omega, HA2.out, hit2.out, hb2.out⟩
            case measure =>
              have h2 := hit2.out
              have h1 := hit.out
              simp only [World.iterPos, h2, h1]
              omega
          · have ANS : Hid (PIans s.data.toList 0 false) := pi_bad HC.out hp hd
            have hb2 := Lib.hid hbel2
            clear hbel2
            by_cases hA : d[pos].toNat < 128
            · have hnx : ∀ ty, (Instr.next (.pointer (some ⟨w.heap.size, 0, none⟩)) true ty).run Tryd.prog wr = _ := fun ty => Lib.run_next_ascii_at wr w.heap.size d pos ty hit.out hp hA
              unfold isD at hd
              by_cases hd1 : (d[pos].toNat : Int) < 48
              · clear hd
                go_wp2
                go_ret2
                exact ⟨⟨_, _, ANS.out, rfl⟩, hb2.out _⟩
              · have hd2 : (57 : Int) < (d[pos].toNat : Int) := by omega
                clear hd
                go_wp2
                go_ret2
                exact ⟨⟨_, _, ANS.out, rfl⟩, hb2.out _⟩
            · have hnx : ∀ ty, (Instr.next (.pointer (some ⟨w.heap.size, 0, none⟩)) true ty).run Tryd.prog wr = _ := fun ty => Lib.run_next_any_at wr w.heap.size d pos ty hit.out hp
              have hd1 := decode_le d pos
              have hdh := (decode_high d pos hp (by omega)).1
              have hd3 : ¬ ((Utf8.decode d pos).1 : Int) < 48 := by omega
              have hd4 : (57 : Int) < ((Utf8.decode d pos).1 : Int) := by omega
              clear hd
              go_wp2
              go_ret2
              exact ⟨⟨_, _, ANS.out, rfl⟩, hb2.out _⟩
        · obtain rfl : pos = d.size := by omega
          have hnx : ∀ ty, (Instr.next (.pointer (some ⟨w.heap.size, 0, none⟩)) true ty).run Tryd.prog wr = _ := fun ty => Lib.run_next_end_at wr w.heap.size d d.size ty hit.out hp
          obtain ⟨y1, y2⟩ := pi_end HC.out HA.out h9
          have HT2 : Hid (PowTab wr) := HT.out.below hbel (Nat.le_refl _)
          have hsz : w.heap.size ≤ _ := hbel.size
          by_cases he : s.data.toList = Lib.itoa (-((val (d.data.toList.take d.size) : Nat) : Int))
          · have hq : (Lib.itoa (-((val (d.data.toList.take d.size) : Nat) : Int)) == s.toList) = true := by rw [eq_bytes, decide_eq_true he]
            have ANS : Hid (PIans s.data.toList (-((val (d.data.toList.take d.size) : Nat) : Int)) true) := y1 he
            clear he y1 y2
            go_wp2_with (first | (go_at_call 40; refine (impl_fi _ _ (by omega) (by omega) HT2.out).mono ?_; rintro e w3 ⟨rfl, hb3⟩))
            go_ret2
            exact ⟨⟨_, _, ANS.out, rfl⟩, hbel.trans (hb3.mono hsz)⟩
          · have hq : (Lib.itoa (-((val (d.data.toList.take d.size) : Nat) : Int)) == s.toList) = false := by rw [eq_bytes, decide_eq_false he]
            have ANS : Hid (PIans s.data.toList 0 false) := y2 he
            clear he y1 y2
            go_wp2_with (first | (go_at_call 40; refine (impl_fi _ _ (by omega) (by omega) HT2.out).mono ?_; rintro e w3 ⟨rfl, hb3⟩))
            go_ret2
            exact ⟨⟨_, _, ANS.out, rfl⟩, hbel.trans (hb3.mono hsz)⟩
  · have h9I : (9 : Int) < d.size := by omega
    have ANS : Hid (PIans s.data.toList 0 false) := pi_wide HC.out (by simp; omega)
    go_enter Tryd.func45, Tryd.ntmps45
    go_wp2_with (first | (go_at_call 75; refine (hcp.out _).mono ?_; rintro e w' ⟨rfl, rfl⟩))
    go_ret2
    exact ⟨⟨_, _, ANS.out, rfl⟩, Below.refl _ _⟩

theorem impl_pi (s : ByteArray) (w : World) (ht : PowTab w) : Calls Tryd.prog 45 #[.string s] w (PiPost s w) :=
  impl_pi_at s (cpD s) (cpN s) w (fun w => cp_any s w) (cut_cp s) ht
end Go.Proofs.YtndebdimjlfepaaDoor
