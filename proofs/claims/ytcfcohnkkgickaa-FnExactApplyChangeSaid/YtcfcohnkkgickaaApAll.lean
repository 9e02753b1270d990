/-
  The walk over the model's l7Append, whole.
-/
import Derived.Test.YtcfcohnkkgickaaRows
import Derived.Test.YtcfcohnkkgickaaApSpec
import Derived.Test.YtcfcohnkkgickaaApfSpec
import Derived.Test.YtcfcohnkkgickaaApySpec
import Derived.Test.YtcfcohnkkgickaaApnSpec
namespace Go.Proofs.Ytcfcohnkkgickaa
open Go.RowKit Num

theorem spec_app (ver : Int) (ao : Option Addr) (n cap : Nat) (l : List Blk) (b i g y x : Int) (nl : Bool) (f : List Nat) (W w : World) (hn : l.length = n) (hT : TblOk ver l l.length) (hC : ChOk ⟨1, b, ⟨i, g, y, x, nl⟩⟩) (hW : Below W.heap.size W w) (hO : OwnB w W.heap.size (.slice ao n cap) l f) :
    Calls Try.prog 79 #[.agg #[.int .i64 ver, .slice ao n cap], .agg #[.int .i64 1, .int .i64 b, .int .i64 i, .int .i64 g, .int .i64 y, .int .i64 x, .bool nl]] w (AppPost ver l b ⟨i, g, y, x, nl⟩ (ownF (.slice ao n cap) f) w) := by
  by_cases hA : iRow l i < l.length
  · exact spec_app_taken ver ao n cap l b i g y x nl W.heap.size f w hn hT hC hO hA
  · by_cases hk : iBlk l b < l.length
    · by_cases h6 : (Bn l (iBlk l b)).rows.length < 6
      · exact spec_app_room ver ao n cap l b i g y x nl f W w hn hT hC hW hO hA rfl hk h6
      · exact spec_app_full ver ao n cap l b i g y x nl f W w hn hT hC hW hO hA rfl hk h6
    · by_cases hm : 0 < l.length ∧ b < (Bn l (l.length - 1)).id
      · exact spec_app_m ver ao n cap l b i g y x nl f W w hn hT hC hW hO hA hk hm
      · by_cases h6 : l.length = 6
        · exact spec_app_g ver ao n cap l b i g y x nl f W w hn hT hC hW hO hA hk hm h6
        · by_cases h0 : n = 0
          · exact spec_app_nz ver ao n cap l b i g y x nl f W w hn hT hC hW hO hA hk hm h6 h0
          · exact spec_app_ns ver ao n cap l b i g y x nl f W w hn hT hC hW hO hA hk hm h6 (by omega)
end Go.Proofs.Ytcfcohnkkgickaa
