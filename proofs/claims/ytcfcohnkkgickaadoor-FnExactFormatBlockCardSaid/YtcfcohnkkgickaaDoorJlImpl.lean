/-
  Texts in a row; the walk over the project's joinList.
-/
import Derived.Test.YtcfcohnkkgickaaDoorRows
import Derived.Test.YtcfcohnkkgickaaDoorStrOwn
import Derived.Test.YtcfcohnkkgickaaDoorRfImpl
namespace Go.Proofs.YtcfcohnkkgickaaDoor
open Go.RowKit Num

/-- The texts T stand in a row. -/
def TextsAt (w : World) (ao : Option Addr) (T : List (List UInt8)) : Prop := T = [] ∨ ∃ g o, ao = some ⟨g, o, none⟩ ∧ g < w.heap.size ∧ ∀ k (hk : k < T.length), w.cell? ⟨g, o + k, none⟩ = some (.string ⟨(T[k]).toArray⟩)
theorem TextsAt.step {w w' : World} {ao : Option Addr} {T : List (List UInt8)} (h : TextsAt w ao T) (hb : Below w.heap.size w w') : TextsAt w' ao T := by
  rcases h with h | ⟨g, o, e, hg, hc⟩
  · exact .inl h
  · exact .inr ⟨g, o, e, Nat.lt_of_lt_of_le hg hb.size, fun k hk => by rw [hb.cell (p := ⟨g, o + k, none⟩) hg]; exact hc k hk⟩
theorem TextsAt.nil (w : World) (ao : Option Addr) : TextsAt w ao [] := .inl rfl
theorem Strs.texts {w : World} {B : Nat} {ao : Option Addr} {cap : Nat} {T : List (List UInt8)} (h : Strs w B (.slice ao T.length cap) T) : TextsAt w ao T := by
  by_cases hn : T.length = 0
  · exact .inl (List.eq_nil_of_length_eq_zero hn)
  · obtain ⟨g, c, hv, _, hg, _, hc⟩ := h.form (by omega)
    simp only [Value.slice.injEq] at hv
    obtain ⟨rfl, _, rfl⟩ := hv
    exact .inr ⟨g, 0, rfl, hg, fun k hk => by rw [Nat.zero_add]; exact (hc k hk).1⟩
theorem Strs.shape {w : World} {B : Nat} {v : Value} {T : List (List UInt8)} (h : Strs w B v T) : ∃ ao cap, v = .slice ao T.length cap := by
  rcases h.2 with ⟨rfl, h0⟩ | ⟨g, cap, cur, rfl, _⟩
  · exact ⟨none, 0, by rw [h0]⟩
  · exact ⟨_, _, rfl⟩

/-- Texts, each behind the separator. -/
def joinT (sep : List UInt8) (T : List (List UInt8)) : Nat → List UInt8
  | 0 => []
  | k + 1 => joinT sep T k ++ (sep ++ T.getD k [])
theorem joinT_flat (sep : List UInt8) (T : List (List UInt8)) : ∀ n, n ≤ T.length → joinT sep T n = ((T.take n).map fun t => sep ++ t).flatten
  | 0, _ => rfl
  | n + 1, h => by
    rw [List.take_add_one, List.getElem?_eq_getElem (by omega), List.map_append, List.flatten_append, ← joinT_flat sep T n (by omega), joinT, List.getD_eq_getElem?_getD, List.getElem?_eq_getElem (by omega)]
    simp

theorem cat3 (a b c : List UInt8) : (⟨a.toArray⟩ : ByteArray) ++ ((⟨b.toArray⟩ : ByteArray) ++ (⟨c.toArray⟩ : ByteArray)) = ⟨(a ++ (b ++ c)).toArray⟩ := by
  apply ByteArray.ext
  simp
theorem cat2 (a b : List UInt8) : (⟨a.toArray⟩ : ByteArray) ++ (⟨b.toArray⟩ : ByteArray) = ⟨(a ++ b).toArray⟩ := by
  apply ByteArray.ext
  simp

set_option maxRecDepth 8000 in
set_option maxHeartbeats 6400000 in
theorem impl_jl (mk sep : List UInt8) (id : Int) (ao : Option Addr) (T : List (List UInt8)) (n cap : Nat) (w : World) (hnT : n = T.length) (hmk : mk.length ≤ 1) (hsp : sep.length ≤ 1) (hn : n ≤ 1048576) (h0 : -9223372036854775808 ≤ id) (h1 : id ≤ 9223372036854775807)
    (hlen : ∀ x ∈ T, x.length ≤ 1048576) (hT : TextsAt w ao T) (ht : PowTab w) :
    Calls Tryd.prog 27 #[.string ⟨mk.toArray⟩, .int .i64 id, .string ⟨sep.toArray⟩, .slice ao n cap] w fun e w' => e = .returned (.string ⟨(mk ++ (Lib.itoa id ++ joinT sep T n)).toArray⟩) ∧ Below w.heap.size w w' := by
  have HTX := Lib.hid hT
  have HLE := Lib.hid hlen
  have HT : Hid (PowTab w) := ht
  have HN := Lib.hid hnT
  have hnI : (n : Int) ≤ 1048576 := by omega
  have DF := Lib.hid (fun w ht => impl_fi id w h0 h1 ht)
  have li := Lib.itoa_length_le id h0 h1
  obtain ⟨a0, ha0⟩ : ∃ a0, a0 = Lib.itoa id := ⟨_, rfl⟩
  rw [← ha0] at li DF
  rw [← ha0]
  have hs0 : ¬ 9223372036854775807 < mk.length + a0.length := by omega
  clear hT hlen ht ha0 hnT
  go_enter Tryd.func27, Tryd.ntmps27
  go_wp2_with fail
  refine (DF.out _ HT.out).mono ?_
  rintro e w2 ⟨rfl, hb⟩
  have K2 := Lib.hid hb
  clear hb
  go_wp2_with fail
  go_loopw [9, 18] (fun sv iv wr => ∃ (k : Nat) (acc : List UInt8), k ≤ n ∧ iv = .int .i64 k ∧ sv = .string ⟨acc.toArray⟩ ∧ acc.length ≤ 32 + k * 1048577 ∧ Hid (acc = mk ++ (a0 ++ joinT sep T k)) ∧ Hid (Below w.heap.size w wr)) (fun _ iv _ => n - (intOf iv).toNat)
  case atStart => exact ⟨0, mk ++ a0, Nat.zero_le _, rfl, congrArg Value.string (by rw [cat2]), by simp only [List.length_append]; omega, by show _ = mk ++ (a0 ++ []); rw [List.append_nil], K2.out⟩
  case round =>
    obtain ⟨k, acc, hk, rfl, rfl, hlen, HA, HK⟩ := hrel
    by_cases hlt : k < n
    · have hkI : (k : Int) < (n : Int) := by omega
      have hkT : k < T.length := by have := HN.out; omega
      obtain ⟨g, o, rfl, hg, hc⟩ := (HTX.out.step HK.out).resolve_left (by intro e; rw [e] at hkT; simp at hkT)
      have c0 := hc k hkT
      have hle := HLE.out T[k] (List.getElem_mem hkT)
      have hgd : T.getD k [] = T[k] := by rw [List.getD_eq_getElem?_getD, List.getElem?_eq_getElem hkT]; rfl
      obtain ⟨f, hf⟩ : ∃ f, f = T[k] := ⟨_, rfl⟩
      rw [← hf] at c0 hle hgd
      have HG := Lib.hid hgd
      have s1 : ¬ 9223372036854775807 < sep.length + f.length := by omega
      have s2 : ¬ 9223372036854775807 < acc.length + (sep.length + f.length) := by omega
      clear hc hf hgd
      go_wp2
      go_roundw
      case rel => exact ⟨k + 1, acc ++ (sep ++ f), by omega, by go_num, by rw [← cat3], by simp only [List.length_append]; omega, Lib.hid (by show _ = mk ++ (a0 ++ (joinT sep T k ++ (sep ++ T.getD k []))); rw [HA.out, HG.out]; simp), HK⟩
      case measure => simp [intOf]; omega
    · obtain rfl : k = n := by omega
      have hsd : decide ((k : Int) < (k : Int)) = false := decide_eq_false (by omega)
      go_wp2
      go_ret
      exact ⟨by rw [← HA.out]; rfl, HK.out⟩
end Go.Proofs.YtcfcohnkkgickaaDoor
