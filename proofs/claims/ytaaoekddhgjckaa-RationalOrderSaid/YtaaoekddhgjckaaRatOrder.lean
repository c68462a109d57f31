/- The walk of RationalOrder (layer 7). -/
import Derived.Test.YtaaoekddhgjckaaRatOrderA
import Derived.Test.YtaaoekddhgjckaaRatOrderB
import Derived.Test.YtaaoekddhgjckaaRatOrderC
import Derived.Test.YtaaoekddhgjckaaRatOrderD
namespace Go.Proofs.Ytaaoekddhgjckaa
open Go.ChangeShapes Go.WideShapes Go.ChangeAt Go.RowKit

theorem order_lt1 (an ad bn bd cn cd : Int) (w : World) (va : Valid an ad) (vb : Valid bn bd) (vc : Valid cn cd) (hab : lessV an ad bn bd = true) (hba : lessV bn bd an ad = false) (hbc : lessV bn bd cn cd = true) (hac : lessV an ad cn cd = true) (hq : ¬ (an = bn ∧ ad = bd)) :
    Calls Try.prog 8 #[.agg #[.int .i64 an, .int .i64 ad], .agg #[.int .i64 bn, .int .i64 bd], .agg #[.int .i64 cn, .int .i64 cd]] w fun e w' => e = .returned (.bool true) ∧ Below w.heap.size w w' := by
  by_cases hne : an = bn
  · subst hne
    have hne : ¬ ad = bd := fun k => hq ⟨rfl, k⟩
    by_cases hi : addE an ad cn cd = 0
    · by_cases hj : addE an bd cn cd = 0
      · by_cases hmi : mulE an ad cn cd = 0
        · by_cases hmj : mulE an bd cn cd = 0
          · by_cases hp : 0 < cn
            · exact rationalOrder_lt1_tt_ttt_s _ _ _ _ _ va vb vc hab hba hbc hac hne hi hj hmi hmj hp _
            · exact rationalOrder_lt1_tt_ttf_s _ _ _ _ _ va vb vc hab hba hbc hac hne hi hj hmi hmj (by omega) _
          · exact rationalOrder_lt1_tt_tfn_s _ _ _ _ _ va vb vc hab hba hbc hac hne hi hj hmi hmj _
        · exact rationalOrder_lt1_tt_fnn_s _ _ _ _ _ va vb vc hab hba hbc hac hne hi hj hmi _
      · by_cases hmi : mulE an ad cn cd = 0
        · by_cases hmj : mulE an bd cn cd = 0
          · by_cases hp : 0 < cn
            · exact rationalOrder_lt1_tf_ttt_s _ _ _ _ _ va vb vc hab hba hbc hac hne hi hj hmi hmj hp _
            · exact rationalOrder_lt1_tf_ttf_s _ _ _ _ _ va vb vc hab hba hbc hac hne hi hj hmi hmj (by omega) _
          · exact rationalOrder_lt1_tf_tfn_s _ _ _ _ _ va vb vc hab hba hbc hac hne hi hj hmi hmj _
        · exact rationalOrder_lt1_tf_fnn_s _ _ _ _ _ va vb vc hab hba hbc hac hne hi hj hmi _
    · by_cases hmi : mulE an ad cn cd = 0
      · by_cases hmj : mulE an bd cn cd = 0
        · by_cases hp : 0 < cn
          · exact rationalOrder_lt1_fn_ttt_s _ _ _ _ _ va vb vc hab hba hbc hac hne hi hmi hmj hp _
          · exact rationalOrder_lt1_fn_ttf_s _ _ _ _ _ va vb vc hab hba hbc hac hne hi hmi hmj (by omega) _
        · exact rationalOrder_lt1_fn_tfn_s _ _ _ _ _ va vb vc hab hba hbc hac hne hi hmi hmj _
      · exact rationalOrder_lt1_fn_fnn_s _ _ _ _ _ va vb vc hab hba hbc hac hne hi hmi _
  · by_cases hi : addE an ad cn cd = 0
    · by_cases hj : addE bn bd cn cd = 0
      · by_cases hmi : mulE an ad cn cd = 0
        · by_cases hmj : mulE bn bd cn cd = 0
          · by_cases hp : 0 < cn
            · exact rationalOrder_lt1_tt_ttt _ _ _ _ _ _ va vb vc hab hba hbc hac hne hi hj hmi hmj hp _
            · exact rationalOrder_lt1_tt_ttf _ _ _ _ _ _ va vb vc hab hba hbc hac hne hi hj hmi hmj (by omega) _
          · exact rationalOrder_lt1_tt_tfn _ _ _ _ _ _ va vb vc hab hba hbc hac hne hi hj hmi hmj _
        · exact rationalOrder_lt1_tt_fnn _ _ _ _ _ _ va vb vc hab hba hbc hac hne hi hj hmi _
      · by_cases hmi : mulE an ad cn cd = 0
        · by_cases hmj : mulE bn bd cn cd = 0
          · by_cases hp : 0 < cn
            · exact rationalOrder_lt1_tf_ttt _ _ _ _ _ _ va vb vc hab hba hbc hac hne hi hj hmi hmj hp _
            · exact rationalOrder_lt1_tf_ttf _ _ _ _ _ _ va vb vc hab hba hbc hac hne hi hj hmi hmj (by omega) _
          · exact rationalOrder_lt1_tf_tfn _ _ _ _ _ _ va vb vc hab hba hbc hac hne hi hj hmi hmj _
        · exact rationalOrder_lt1_tf_fnn _ _ _ _ _ _ va vb vc hab hba hbc hac hne hi hj hmi _
    · by_cases hmi : mulE an ad cn cd = 0
      · by_cases hmj : mulE bn bd cn cd = 0
        · by_cases hp : 0 < cn
          · exact rationalOrder_lt1_fn_ttt _ _ _ _ _ _ va vb vc hab hba hbc hac hne hi hmi hmj hp _
          · exact rationalOrder_lt1_fn_ttf _ _ _ _ _ _ va vb vc hab hba hbc hac hne hi hmi hmj (by omega) _
        · exact rationalOrder_lt1_fn_tfn _ _ _ _ _ _ va vb vc hab hba hbc hac hne hi hmi hmj _
      · exact rationalOrder_lt1_fn_fnn _ _ _ _ _ _ va vb vc hab hba hbc hac hne hi hmi _

theorem order_lt0 (an ad bn bd cn cd : Int) (w : World) (va : Valid an ad) (vb : Valid bn bd) (vc : Valid cn cd) (hab : lessV an ad bn bd = true) (hba : lessV bn bd an ad = false) (hbc : lessV bn bd cn cd = false) (hq : ¬ (an = bn ∧ ad = bd)) :
    Calls Try.prog 8 #[.agg #[.int .i64 an, .int .i64 ad], .agg #[.int .i64 bn, .int .i64 bd], .agg #[.int .i64 cn, .int .i64 cd]] w fun e w' => e = .returned (.bool true) ∧ Below w.heap.size w w' := by
  by_cases hne : an = bn
  · subst hne
    have hne : ¬ ad = bd := fun k => hq ⟨rfl, k⟩
    by_cases hi : addE an ad cn cd = 0
    · by_cases hj : addE an bd cn cd = 0
      · by_cases hmi : mulE an ad cn cd = 0
        · by_cases hmj : mulE an bd cn cd = 0
          · by_cases hp : 0 < cn
            · exact rationalOrder_lt0_tt_ttt_s _ _ _ _ _ va vb vc hab hba hbc hne hi hj hmi hmj hp _
            · exact rationalOrder_lt0_tt_ttf_s _ _ _ _ _ va vb vc hab hba hbc hne hi hj hmi hmj (by omega) _
          · exact rationalOrder_lt0_tt_tfn_s _ _ _ _ _ va vb vc hab hba hbc hne hi hj hmi hmj _
        · exact rationalOrder_lt0_tt_fnn_s _ _ _ _ _ va vb vc hab hba hbc hne hi hj hmi _
      · by_cases hmi : mulE an ad cn cd = 0
        · by_cases hmj : mulE an bd cn cd = 0
          · by_cases hp : 0 < cn
            · exact rationalOrder_lt0_tf_ttt_s _ _ _ _ _ va vb vc hab hba hbc hne hi hj hmi hmj hp _
            · exact rationalOrder_lt0_tf_ttf_s _ _ _ _ _ va vb vc hab hba hbc hne hi hj hmi hmj (by omega) _
          · exact rationalOrder_lt0_tf_tfn_s _ _ _ _ _ va vb vc hab hba hbc hne hi hj hmi hmj _
        · exact rationalOrder_lt0_tf_fnn_s _ _ _ _ _ va vb vc hab hba hbc hne hi hj hmi _
    · by_cases hmi : mulE an ad cn cd = 0
      · by_cases hmj : mulE an bd cn cd = 0
        · by_cases hp : 0 < cn
          · exact rationalOrder_lt0_fn_ttt_s _ _ _ _ _ va vb vc hab hba hbc hne hi hmi hmj hp _
          · exact rationalOrder_lt0_fn_ttf_s _ _ _ _ _ va vb vc hab hba hbc hne hi hmi hmj (by omega) _
        · exact rationalOrder_lt0_fn_tfn_s _ _ _ _ _ va vb vc hab hba hbc hne hi hmi hmj _
      · exact rationalOrder_lt0_fn_fnn_s _ _ _ _ _ va vb vc hab hba hbc hne hi hmi _
  · by_cases hi : addE an ad cn cd = 0
    · by_cases hj : addE bn bd cn cd = 0
      · by_cases hmi : mulE an ad cn cd = 0
        · by_cases hmj : mulE bn bd cn cd = 0
          · by_cases hp : 0 < cn
            · exact rationalOrder_lt0_tt_ttt _ _ _ _ _ _ va vb vc hab hba hbc hne hi hj hmi hmj hp _
            · exact rationalOrder_lt0_tt_ttf _ _ _ _ _ _ va vb vc hab hba hbc hne hi hj hmi hmj (by omega) _
          · exact rationalOrder_lt0_tt_tfn _ _ _ _ _ _ va vb vc hab hba hbc hne hi hj hmi hmj _
        · exact rationalOrder_lt0_tt_fnn _ _ _ _ _ _ va vb vc hab hba hbc hne hi hj hmi _
      · by_cases hmi : mulE an ad cn cd = 0
        · by_cases hmj : mulE bn bd cn cd = 0
          · by_cases hp : 0 < cn
            · exact rationalOrder_lt0_tf_ttt _ _ _ _ _ _ va vb vc hab hba hbc hne hi hj hmi hmj hp _
            · exact rationalOrder_lt0_tf_ttf _ _ _ _ _ _ va vb vc hab hba hbc hne hi hj hmi hmj (by omega) _
          · exact rationalOrder_lt0_tf_tfn _ _ _ _ _ _ va vb vc hab hba hbc hne hi hj hmi hmj _
        · exact rationalOrder_lt0_tf_fnn _ _ _ _ _ _ va vb vc hab hba hbc hne hi hj hmi _
    · by_cases hmi : mulE an ad cn cd = 0
      · by_cases hmj : mulE bn bd cn cd = 0
        · by_cases hp : 0 < cn
          · exact rationalOrder_lt0_fn_ttt _ _ _ _ _ _ va vb vc hab hba hbc hne hi hmi hmj hp _
          · exact rationalOrder_lt0_fn_ttf _ _ _ _ _ _ va vb vc hab hba hbc hne hi hmi hmj (by omega) _
        · exact rationalOrder_lt0_fn_tfn _ _ _ _ _ _ va vb vc hab hba hbc hne hi hmi hmj _
      · exact rationalOrder_lt0_fn_fnn _ _ _ _ _ _ va vb vc hab hba hbc hne hi hmi _

theorem order_gt (an ad bn bd cn cd : Int) (w : World) (va : Valid an ad) (vb : Valid bn bd) (vc : Valid cn cd) (hab : lessV an ad bn bd = false) (hba : lessV bn bd an ad = true) (hq : ¬ (an = bn ∧ ad = bd)) :
    Calls Try.prog 8 #[.agg #[.int .i64 an, .int .i64 ad], .agg #[.int .i64 bn, .int .i64 bd], .agg #[.int .i64 cn, .int .i64 cd]] w fun e w' => e = .returned (.bool true) ∧ Below w.heap.size w w' := by
  by_cases hne : an = bn
  · subst hne
    have hne : ¬ ad = bd := fun k => hq ⟨rfl, k⟩
    by_cases hi : addE an ad cn cd = 0
    · by_cases hj : addE an bd cn cd = 0
      · by_cases hmi : mulE an ad cn cd = 0
        · by_cases hmj : mulE an bd cn cd = 0
          · by_cases hp : 0 < cn
            · exact rationalOrder_gt_tt_ttt_s _ _ _ _ _ va vb vc hab hba hne hi hj hmi hmj hp _
            · exact rationalOrder_gt_tt_ttf_s _ _ _ _ _ va vb vc hab hba hne hi hj hmi hmj (by omega) _
          · exact rationalOrder_gt_tt_tfn_s _ _ _ _ _ va vb vc hab hba hne hi hj hmi hmj _
        · exact rationalOrder_gt_tt_fnn_s _ _ _ _ _ va vb vc hab hba hne hi hj hmi _
      · by_cases hmi : mulE an ad cn cd = 0
        · by_cases hmj : mulE an bd cn cd = 0
          · by_cases hp : 0 < cn
            · exact rationalOrder_gt_tf_ttt_s _ _ _ _ _ va vb vc hab hba hne hi hj hmi hmj hp _
            · exact rationalOrder_gt_tf_ttf_s _ _ _ _ _ va vb vc hab hba hne hi hj hmi hmj (by omega) _
          · exact rationalOrder_gt_tf_tfn_s _ _ _ _ _ va vb vc hab hba hne hi hj hmi hmj _
        · exact rationalOrder_gt_tf_fnn_s _ _ _ _ _ va vb vc hab hba hne hi hj hmi _
    · by_cases hmi : mulE an ad cn cd = 0
      · by_cases hmj : mulE an bd cn cd = 0
        · by_cases hp : 0 < cn
          · exact rationalOrder_gt_fn_ttt_s _ _ _ _ _ va vb vc hab hba hne hi hmi hmj hp _
          · exact rationalOrder_gt_fn_ttf_s _ _ _ _ _ va vb vc hab hba hne hi hmi hmj (by omega) _
        · exact rationalOrder_gt_fn_tfn_s _ _ _ _ _ va vb vc hab hba hne hi hmi hmj _
      · exact rationalOrder_gt_fn_fnn_s _ _ _ _ _ va vb vc hab hba hne hi hmi _
  · by_cases hi : addE an ad cn cd = 0
    · by_cases hj : addE bn bd cn cd = 0
      · by_cases hmi : mulE an ad cn cd = 0
        · by_cases hmj : mulE bn bd cn cd = 0
          · by_cases hp : 0 < cn
            · exact rationalOrder_gt_tt_ttt _ _ _ _ _ _ va vb vc hab hba hne hi hj hmi hmj hp _
            · exact rationalOrder_gt_tt_ttf _ _ _ _ _ _ va vb vc hab hba hne hi hj hmi hmj (by omega) _
          · exact rationalOrder_gt_tt_tfn _ _ _ _ _ _ va vb vc hab hba hne hi hj hmi hmj _
        · exact rationalOrder_gt_tt_fnn _ _ _ _ _ _ va vb vc hab hba hne hi hj hmi _
      · by_cases hmi : mulE an ad cn cd = 0
        · by_cases hmj : mulE bn bd cn cd = 0
          · by_cases hp : 0 < cn
            · exact rationalOrder_gt_tf_ttt _ _ _ _ _ _ va vb vc hab hba hne hi hj hmi hmj hp _
            · exact rationalOrder_gt_tf_ttf _ _ _ _ _ _ va vb vc hab hba hne hi hj hmi hmj (by omega) _
          · exact rationalOrder_gt_tf_tfn _ _ _ _ _ _ va vb vc hab hba hne hi hj hmi hmj _
        · exact rationalOrder_gt_tf_fnn _ _ _ _ _ _ va vb vc hab hba hne hi hj hmi _
    · by_cases hmi : mulE an ad cn cd = 0
      · by_cases hmj : mulE bn bd cn cd = 0
        · by_cases hp : 0 < cn
          · exact rationalOrder_gt_fn_ttt _ _ _ _ _ _ va vb vc hab hba hne hi hmi hmj hp _
          · exact rationalOrder_gt_fn_ttf _ _ _ _ _ _ va vb vc hab hba hne hi hmi hmj (by omega) _
        · exact rationalOrder_gt_fn_tfn _ _ _ _ _ _ va vb vc hab hba hne hi hmi hmj _
      · exact rationalOrder_gt_fn_fnn _ _ _ _ _ _ va vb vc hab hba hne hi hmi _

theorem order_eq (an ad cn cd : Int) (w : World) (va : Valid an ad) (vc : Valid cn cd) (hab : lessV an ad an ad = false) :
    Calls Try.prog 8 #[.agg #[.int .i64 an, .int .i64 ad], .agg #[.int .i64 an, .int .i64 ad], .agg #[.int .i64 cn, .int .i64 cd]] w fun e w' => e = .returned (.bool true) ∧ Below w.heap.size w w' := by
  by_cases hi : addE an ad cn cd = 0
  · have hj := hi
    by_cases hmi : mulE an ad cn cd = 0
    · have hmj := hmi
      by_cases hp : 0 < cn
      · exact rationalOrder_eq_tt_ttt _ _ _ _ va vc hab hi hj hmi hmj hp _
      · exact rationalOrder_eq_tt_ttf _ _ _ _ va vc hab hi hj hmi hmj (by omega) _
    · exact rationalOrder_eq_tt_fnn _ _ _ _ va vc hab hi hj hmi _
  · by_cases hmi : mulE an ad cn cd = 0
    · have hmj := hmi
      by_cases hp : 0 < cn
      · exact rationalOrder_eq_fn_ttt _ _ _ _ va vc hab hi hmi hmj hp _
      · exact rationalOrder_eq_fn_ttf _ _ _ _ va vc hab hi hmi hmj (by omega) _
    · exact rationalOrder_eq_fn_fnn _ _ _ _ va vc hab hi hmi _

theorem rationalOrder_walk (an ad bn bd cn cd : Int) (w : World) :
    Calls Try.prog 8 #[.agg #[.int .i64 an, .int .i64 ad], .agg #[.int .i64 bn, .int .i64 bd], .agg #[.int .i64 cn, .int .i64 cd]] w fun e w' => e = .returned (.bool true) ∧ Below w.heap.size w w' := by
  by_cases e1 : lessE an ad bn bd = 0
  · by_cases e3 : lessE bn bd cn cd = 0
    · have hab : Valid an ad ∧ Valid bn bd := by unfold lessE at e1; split at e1 <;> simp_all
      have hbc : Valid bn bd ∧ Valid cn cd := by unfold lessE at e3; split at e3 <;> simp_all
      obtain ⟨va, vb⟩ := hab
      obtain ⟨_, vc⟩ := hbc
      cases h1 : lessV an ad bn bd with
      | true =>
        obtain ⟨h2, hq, _⟩ := less_anti va vb h1
        have hq' : ¬ (an = bn ∧ ad = bd) := by simpa using hq
        cases h3 : lessV bn bd cn cd with
        | true => exact order_lt1 _ _ _ _ _ _ _ va vb vc h1 h2 h3 (less_trans va vb vc h1 h3) hq'
        | false => exact order_lt0 _ _ _ _ _ _ _ va vb vc h1 h2 h3 hq'
      | false =>
        cases h2 : lessV bn bd an ad with
        | true =>
          obtain ⟨_, _, hq⟩ := less_anti vb va h2
          have hq' : ¬ (an = bn ∧ ad = bd) := by simpa using hq
          exact order_gt _ _ _ _ _ _ _ va vb vc h1 h2 hq'
        | false =>
          obtain ⟨rfl, rfl⟩ := less_total va vb h1 h2
          exact order_eq _ _ _ _ _ va vc h1
    · exact rationalOrder_bad3 _ _ _ _ _ _ e1 e3 _
  · exact rationalOrder_bad1 _ _ _ _ _ _ e1 _
end Go.Proofs.Ytaaoekddhgjckaa
