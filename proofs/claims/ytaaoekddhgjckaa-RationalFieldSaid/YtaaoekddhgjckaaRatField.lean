/- The walk of RationalField (layer 7). -/
import Derived.Test.YtaaoekddhgjckaaRatFieldA
import Derived.Test.YtaaoekddhgjckaaRatFieldB
import Derived.Test.YtaaoekddhgjckaaRatFieldC
namespace Go.Proofs.Ytaaoekddhgjckaa
open Go.ChangeShapes Go.WideShapes Go.ChangeAt Go.RowKit

theorem rationalField_walk (an ad bn bd cn cd : Int) (w : World) :
    Calls Try.prog 5 #[.agg #[.int .i64 an, .int .i64 ad], .agg #[.int .i64 bn, .int .i64 bd], .agg #[.int .i64 cn, .int .i64 cd]] w fun e w' => e = .returned (.bool true) ∧ Below w.heap.size w w' := by
  by_cases he : addE an ad bn bd = 0
  · by_cases hi : addE bn bd cn cd = 0
    · by_cases hg : mulE an ad bn bd = 0
      · by_cases hj : mulE bn bd cn cd = 0
        · by_cases hk : mulE an ad cn cd = 0
          · exact rationalField_ttttt _ _ _ _ _ _ he hi hg hj hk _
          · exact rationalField_ttttf _ _ _ _ _ _ he hi hg hj hk _
        · by_cases hk : mulE an ad cn cd = 0
          · exact rationalField_tttft _ _ _ _ _ _ he hi hg hj hk _
          · exact rationalField_tttff _ _ _ _ _ _ he hi hg hj hk _
      · exact rationalField_ttfnn _ _ _ _ _ _ he hi hg _
    · by_cases hg : mulE an ad bn bd = 0
      · by_cases hj : mulE bn bd cn cd = 0
        · exact rationalField_tfttn _ _ _ _ _ _ he hi hg hj _
        · exact rationalField_tftfn _ _ _ _ _ _ he hi hg hj _
      · exact rationalField_tffnn _ _ _ _ _ _ he hi hg _
  · by_cases hi : addE bn bd cn cd = 0
    · by_cases hg : mulE an ad bn bd = 0
      · by_cases hj : mulE bn bd cn cd = 0
        · by_cases hk : mulE an ad cn cd = 0
          · exact rationalField_ftttt _ _ _ _ _ _ he hi hg hj hk _
          · exact rationalField_ftttf _ _ _ _ _ _ he hi hg hj hk _
        · by_cases hk : mulE an ad cn cd = 0
          · exact rationalField_fttft _ _ _ _ _ _ he hi hg hj hk _
          · exact rationalField_fttff _ _ _ _ _ _ he hi hg hj hk _
      · exact rationalField_ftfnn _ _ _ _ _ _ he hi hg _
    · by_cases hg : mulE an ad bn bd = 0
      · by_cases hj : mulE bn bd cn cd = 0
        · exact rationalField_ffttn _ _ _ _ _ _ he hi hg hj _
        · exact rationalField_fftfn _ _ _ _ _ _ he hi hg hj _
      · exact rationalField_fffnn _ _ _ _ _ _ he hi hg _
end Go.Proofs.Ytaaoekddhgjckaa
