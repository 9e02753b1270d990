/-
  The walk over the project's performing of a retention.
-/
import Derived.Test.YtcfcohnkkgickaaRows
import Derived.Test.YtcfcohnkkgickaaDfnImpl
namespace Go.Proofs.Ytcfcohnkkgickaa
open Go.RowKit Num

/-- A table behind a pointer whose slice is replaced. -/
theorem TblBox.setV {w w1 : World} {bp : Nat} {ver : Int} {v v' : Value} {l l' : List Blk} {fp fp' : List Nat} (h : TblBox w bp ver v l fp) (hc : Chg fp w w1) (hs : SliceRep blkTy w1 v' l' fp') (hn : fp'.Nodup) (hf : bp ∉ fp') :
    (w1.cell? ⟨bp, 0, none⟩ = some (.int .i64 ver) ∧ w1.cell? ⟨bp, 1, none⟩ = some v ∧ w1.frozen? ⟨bp, 1, none⟩ = false) ∧ TblBox (w1.setCell ⟨bp, 1, none⟩ v') bp ver v' l' fp' ∧ Chg (bp :: fp) w (w1.setCell ⟨bp, 1, none⟩ v') := by
  obtain ⟨h1, h2, h3, h4, h5, h6, h7, h8⟩ := h
  have hh := hc.block bp h1 h8
  have c0 := (World.cell?_of_block (a := ⟨bp, 0, none⟩) hh).trans h2
  have c1 := (World.cell?_of_block (a := ⟨bp, 1, none⟩) hh).trans h4
  have f0 := (World.frozen?_of_block (a := ⟨bp, 0, none⟩) hh).trans h3
  have f1 := (World.frozen?_of_block (a := ⟨bp, 1, none⟩) hh).trans h5
  refine ⟨⟨c0, c1, f1⟩, ⟨by simpa using Nat.lt_of_lt_of_le h1 hc.size, ?_, by rw [World.frozen?_setCell]; exact f0, ?_, by rw [World.frozen?_setCell]; exact f1, hs.set _ _ (fun k hk e => hf (by have e' : k = bp := e; rw [← e']; exact hk)), hn, hf⟩, (hc.mono (fun x hx => by simp [hx])).set (by simp) _⟩
  · rw [World.cell?_setCell_other (w := w1) (a := ⟨bp, 1, none⟩) (b := ⟨bp, 0, none⟩) (v := v') (by simp)]
    exact c0
  · exact World.cell?_setCell_same (w := w1) (a := ⟨bp, 1, none⟩) (v := v') c1

set_option maxRecDepth 8000 in
set_option maxHeartbeats 6400000 in
theorem impl_pf4 (ver b i g y x : Int) (nl : Bool) (bp : Nat) (v : Value) (l : List Blk) (fp : List Nat) (w : World) (hT : TblOk ver l l.length) (hC : ChOk ⟨4, b, ⟨i, g, y, x, nl⟩⟩) (hv : ver ≠ 99) (hB : TblBox w bp ver v l fp) :
    Calls Try.prog 180 #[.agg #[.int .i64 4, .int .i64 b, .int .i64 i, .int .i64 g, .int .i64 y, .int .i64 x, .bool nl], .pointer (some ⟨bp, 0, none⟩)] w (PfPost ver l ⟨4, b, ⟨i, g, y, x, nl⟩⟩ bp fp w) := by
  have hn6 : l.length ≤ 6 := hT.2.1
  have AP := Lib.hid (applyC_4 (ver := ver) (l := l) (c := ⟨4, b, ⟨i, g, y, x, nl⟩⟩) ⟨hT, hC, hv⟩ rfl)
  have HBX := Lib.hid hB
  have K1 := (Kept.start w).alloc7 (.int .i64 4) (.int .i64 b) (.int .i64 i) (.int .i64 g) (.int .i64 y) (.int .i64 x) (.bool nl) 163 _ rfl
  have HB1 := Lib.hid (hB.step K1.1)
  have hlt := Lib.hid (show ∀ k ∈ fp, k < w.heap.size from hB.2.2.2.2.2.1.lt)
  have DF := Lib.hid (fun w1 h1 h2 => impl_df b w.heap.size v l fp w1 (by omega) h1 hB.2.2.2.2.2.2.1 h2 (fun e => by have := hB.2.2.2.2.2.1.lt _ e; omega))
  have a1 := HB1.out.2.2.2.1
  clear hT hC hv hB
  go_enter Try.func180, Try.ntmps180
  go_wp2_with fail
  refine (DF.out _ HB1.out.2.2.2.2.2.1 (K1.get 1 rfl)).mono ?_
  rintro e w2 ⟨v', fp', rfl, hs, hn, hsub, hch⟩
  obtain ⟨⟨c0, c1, f1⟩, hTB, hCH⟩ := HB1.out.setV hch hs hn (fun e => HB1.out.2.2.2.2.2.2.2 (hsub _ e))
  obtain ⟨ao', c', rfl⟩ := hs.val
  have HTB := Lib.hid hTB
  have HCH := Lib.hid ((Chg.of (fp := bp :: fp) K1.1).trans hCH)
  have HSUB := Lib.hid hsub
  clear hTB hCH hsub hch hs a1 K1
  go_wp2
  go_ret
  exact ⟨_, fp', (by rw [AP.out]; rfl), by rw [AP.out]; exact HTB.out, fun x hx => .inl (HSUB.out x hx), HCH.out⟩
end Go.Proofs.Ytcfcohnkkgickaa
