/-
  The project's performing of a change, kind by kind, over a table of the call's own; the methods behind the interface.
-/
import Derived.Test.YtcfcohnkkgickaaRows
import Derived.Test.YtcfcohnkkgickaaPfmApp
import Derived.Test.YtcfcohnkkgickaaPfmAppy
import Derived.Test.YtcfcohnkkgickaaPfmAppn
import Derived.Test.YtcfcohnkkgickaaPfmCor
import Derived.Test.YtcfcohnkkgickaaPfmDel
import Derived.Test.YtcfcohnkkgickaaPfmRet
namespace Go.Proofs.Ytcfcohnkkgickaa
open Go.RowKit Num

theorem meth_pf1 (d : Nat) (v : Value) (w : World) : (method (d + 1) 160 v "loop.example/g01927/impl.performOn").run Try.prog w = .ok (163, v) w := by kernel_rfl
theorem meth_pf2 (d : Nat) (v : Value) (w : World) : (method (d + 1) 161 v "loop.example/g01927/impl.performOn").run Try.prog w = .ok (171, v) w := by kernel_rfl
theorem meth_pf3 (d : Nat) (v : Value) (w : World) : (method (d + 1) 162 v "loop.example/g01927/impl.performOn").run Try.prog w = .ok (175, v) w := by kernel_rfl
theorem meth_pf4 (d : Nat) (v : Value) (w : World) : (method (d + 1) 163 v "loop.example/g01927/impl.performOn").run Try.prog w = .ok (180, v) w := by kernel_rfl

theorem KB.fresh {W X w' : World} {B : Nat} {L : List (Addr × Value)} {v : Value} {l : List Blk} {f : List Nat} (ho : OwnB X B v l f) (hb : Below X.heap.size X w') (hk : Kept W w' L) (hL : ∀ p ∈ L, X.heap.size ≤ p.1.block) : KB W w' B L v l f := by
  have h1 := ho.lt
  exact ⟨hk, ho.step hb, fun p hp => ⟨fun e => by have := (h1.1 _ e).2; have := hL p hp; omega, fun e => by have := h1.2 _ e; have := hL p hp; omega⟩⟩
theorem applyC_ver {ver : Int} {l : List Blk} {c : Cg} (h : TblOk ver l l.length ∧ ChOk c ∧ ver ≠ 99) : (applyC ver l c).1 = if (applyC ver l c).2.2 = 0 then ver + 1 else ver := by
  rw [applyC_good h]
  repeat' split
  all_goals simp_all

def TBL (bp : Nat) (ver : Int) (v : Value) : List (Addr × Value) := [(⟨bp, 0, none⟩, .int .i64 ver), (⟨bp, 1, none⟩, v)]

theorem pf_of {ver : Int} {l : List Blk} {c : Cg} {bp : Nat} {v : Value} {f : List Nat} {W w : World} {fn : FuncId} {args : Array Value} (hK : KB W w W.heap.size (TBL bp ver v) v l f) (hbp : W.heap.size ≤ bp)
    (h : ∀ fp, TblBox w bp ver v l fp → Calls Try.prog fn args w (PfPost ver l c bp fp w)) : Calls Try.prog fn args w (PfOut ver l c bp W.heap.size W) := by
  obtain ⟨fp, hB, hf⟩ := hK.box (bp := bp) (ver := ver) (by simp [TBL]) (by simp [TBL])
  exact (h fp hB).mono fun e w' hp => hp.out (fun k hk => (hf k hk).1) hbp hK.1.1 hK.1.1.size

theorem impl_pfo2 (ver b i g y x : Int) (nl : Bool) (bp : Nat) (v : Value) (l : List Blk) (f : List Nat) (W w : World) (hT : TblOk ver l l.length) (hC : ChOk ⟨2, b, ⟨i, g, y, x, nl⟩⟩) (hv : ver ≠ 99) (hK : KB W w W.heap.size (TBL bp ver v) v l f) (hbp : W.heap.size ≤ bp) :
    Calls Try.prog 171 #[.agg #[.int .i64 2, .int .i64 b, .int .i64 i, .int .i64 g, .int .i64 y, .int .i64 x, .bool nl], .pointer (some ⟨bp, 0, none⟩)] w (PfOut ver l ⟨2, b, ⟨i, g, y, x, nl⟩⟩ bp W.heap.size W) :=
  pf_of hK hbp fun fp hB => impl_pf2 ver b i g y x nl bp v l fp w hT hC hv hB
theorem impl_pfo3 (ver b i g y x : Int) (nl : Bool) (bp : Nat) (v : Value) (l : List Blk) (f : List Nat) (W w : World) (hT : TblOk ver l l.length) (hC : ChOk ⟨3, b, ⟨i, g, y, x, nl⟩⟩) (hv : ver ≠ 99) (hK : KB W w W.heap.size (TBL bp ver v) v l f) (hbp : W.heap.size ≤ bp) :
    Calls Try.prog 175 #[.agg #[.int .i64 3, .int .i64 b, .int .i64 i, .int .i64 g, .int .i64 y, .int .i64 x, .bool nl], .pointer (some ⟨bp, 0, none⟩)] w (PfOut ver l ⟨3, b, ⟨i, g, y, x, nl⟩⟩ bp W.heap.size W) :=
  pf_of hK hbp fun fp hB => impl_pf3 ver b i g y x nl bp v l fp w hT hC hv hB
theorem impl_pfo4 (ver b i g y x : Int) (nl : Bool) (bp : Nat) (v : Value) (l : List Blk) (f : List Nat) (W w : World) (hT : TblOk ver l l.length) (hC : ChOk ⟨4, b, ⟨i, g, y, x, nl⟩⟩) (hv : ver ≠ 99) (hK : KB W w W.heap.size (TBL bp ver v) v l f) (hbp : W.heap.size ≤ bp) :
    Calls Try.prog 180 #[.agg #[.int .i64 4, .int .i64 b, .int .i64 i, .int .i64 g, .int .i64 y, .int .i64 x, .bool nl], .pointer (some ⟨bp, 0, none⟩)] w (PfOut ver l ⟨4, b, ⟨i, g, y, x, nl⟩⟩ bp W.heap.size W) :=
  pf_of hK hbp fun fp hB => impl_pf4 ver b i g y x nl bp v l fp w hT hC hv hB
theorem impl_pfo1 (ver b i g y x : Int) (nl : Bool) (bp : Nat) (v : Value) (l : List Blk) (f : List Nat) (W w : World) (hT : TblOk ver l l.length) (hC : ChOk ⟨1, b, ⟨i, g, y, x, nl⟩⟩) (hv : ver ≠ 99) (hK : KB W w W.heap.size (TBL bp ver v) v l f) (hbp : W.heap.size ≤ bp) :
    Calls Try.prog 163 #[.agg #[.int .i64 1, .int .i64 b, .int .i64 i, .int .i64 g, .int .i64 y, .int .i64 x, .bool nl], .pointer (some ⟨bp, 0, none⟩)] w (PfOut ver l ⟨1, b, ⟨i, g, y, x, nl⟩⟩ bp W.heap.size W) := by
  by_cases h1 : iRow l i < l.length
  · exact pf_of hK hbp fun fp hB => impl_pf1t ver b i g y x nl bp v l fp w hT hC hv hB h1
  by_cases hk : iBlk l b < l.length
  · by_cases h6 : (Bn l (iBlk l b)).rows.length < 6
    · exact pf_of hK hbp fun fp hB => impl_pf1y ver b i g y x nl bp v l fp w hT hC hv hB h1 rfl hk h6
    · exact pf_of hK hbp fun fp hB => impl_pf1f ver b i g y x nl bp v l fp w hT hC hv hB h1 rfl hk h6
  by_cases hm : 0 < l.length ∧ b < (Bn l (l.length - 1)).id
  · exact pf_of hK hbp fun fp hB => impl_pf1m ver b i g y x nl bp v l fp w hT hC hv hB h1 hk hm
  by_cases h6 : l.length = 6
  · exact pf_of hK hbp fun fp hB => impl_pf1g ver b i g y x nl bp v l fp w hT hC hv hB h1 hk hm h6
  · obtain ⟨fp, hB, hf⟩ := hK.box (bp := bp) (ver := ver) (by simp [TBL]) (by simp [TBL])
    exact impl_pf1n ver b i g y x nl bp v l fp w hT hC hv hB h1 hk hm h6 W f hK hbp
end Go.Proofs.Ytcfcohnkkgickaa
