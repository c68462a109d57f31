/- The walk of MetreOrder (layer 10). -/
import Derived.Test.YtkgimglkiniofaaOpen3
namespace Go.Proofs.Ytkgimglkiniofaa
open Go.ChangeShapes Go.WideShapes Go.ChangeAt Go.RowKit

theorem spot_same {l : List Mt} (h : Changes l) {s B b o U v w : Int} {k1 k2 : Nat} (h1 : Spot l s k1 B b o) (h2 : Spot l s k2 U v w) : U = B ∧ v = b ∧ w = o := by
  have e1 := spot_k h h1.2.1 h2.2.2.1 h1.1 (Int.le_refl _)
  have e2 := spot_k h h2.2.1 h1.2.2.1 h2.1 (Int.le_refl _)
  obtain rfl : k1 = k2 := by omega
  exact ⟨h2.2.2.2.1.trans h1.2.2.2.1.symm, h2.2.2.2.2.1.trans h1.2.2.2.2.1.symm, h2.2.2.2.2.2.trans h1.2.2.2.2.2.symm⟩

set_option maxHeartbeats 4000000 in
theorem metreOrder_walk (a : Option Addr) (b off len cap : Nat) (l : List Mt) (s t : Int) (w : World) (hM : Ms w a len b off l) (hn : len ≤ 9223372036854775807) (hb : 0 < len → ∃ c tb fr, w.heap[b]? = some (.cells c tb fr)) :
    Calls Try.prog 6 #[.slice a len cap, .int .i64 s, .int .i64 t] w fun e w' => e = .returned (.bool true) ∧ Below w.heap.size w w' := by
  have hblk : ∀ W, Below w.heap.size w W → 0 < len → ∃ c tb fr, W.heap[b]? = some (.cells c tb fr) := fun W hW h => by
    obtain ⟨c, tb, fr, h1⟩ := hb h
    exact ⟨c, tb, fr, blk_below h1 hW (Array.getElem?_eq_some_iff.1 h1).1⟩
  have HB := Lib.hid hblk
  have HM := Lib.hid hM
  clear hblk hb hM
  go_enter Try.func6, Try.ntmps6
  go_wp2_with fail
  refine (sane_any w).mono ?_; rintro e w1 ⟨rfl, hB⟩
  by_cases hf : (len : Int) ≤ 100
  case neg =>
    have hf2 : (100 : Int) < (len : Int) := by omega
    go_wp2
    go_ret
    exact ⟨rfl, hB⟩
  have hf2 : ¬ (100 : Int) < (len : Int) := by omega
  go_wp2_with fail
  refine (place_any a b off len cap l s _ (HM.out.grown hB) hn (HB.out _ hB)).mono ?_; rintro e w2 ⟨hb, B, bt, o, r1, hP, rfl⟩
  replace hB := below_after hB hb hB.size
  clear hb
  go_wp2_with fail
  refine (place_any a b off len cap l t _ (HM.out.grown hB) hn (HB.out _ hB)).mono ?_; rintro e w3 ⟨hb, U, v, o2, r2, hP2, rfl⟩
  replace hB := below_after hB hb hB.size
  clear hb
  by_cases hr1 : r1 = 0
  case neg =>
    have y1 : (r1 == 0) = false := by simpa using hr1
    have y2 : (r1 != 0) = true := by simpa using hr1
    clear hP hP2
    go_wp2
    go_ret
    exact ⟨rfl, hB⟩
  by_cases hr2 : r2 = 0
  case neg =>
    have y1 : (r2 == 0) = false := by simpa using hr2
    have y2 : (r2 != 0) = true := by simpa using hr2
    subst hr1
    clear hP hP2
    go_wp2
    go_ret
    exact ⟨rfl, hB⟩
  subst hr1 hr2
  obtain ⟨hc, s0, s1, k1, hS⟩ := place_ok hP
  obtain ⟨_, t0, t1, k2, hT⟩ := place_ok hP2
  clear hP hP2
  have z1 : IntKind.i64.wrap (s + 1) = s + 1 := by rw [IntKind.wrap_i64]; omega
  have zo : IntKind.i64.wrap (o + 1) = o + 1 ∧ IntKind.i64.wrap (bt + 1) = bt + 1 ∧ IntKind.i64.wrap (B + 1) = B + 1 := by
    have f := (spot_bar hc hS).1
    have en := endOf_bd hc hS.1
    have ok := (hc.2.2.2 k1 hS.1).1
    obtain ⟨_, c1, c2, c3, c4, c5, c6⟩ := f
    obtain ⟨m1, m2, m3, m4, m5, m6⟩ := ok
    exact ⟨wrap_id (by omega), wrap_id (by omega), wrap_id (by omega)⟩
  obtain ⟨z2, z3, z4⟩ := zo
  rcases Int.lt_trichotomy s t with hst | rfl | hst
  · by_cases hnx : t = s + 1
    · subst hnx
      rcases spot_next hc hS hT with ⟨rfl, rfl, rfl⟩ | ⟨rfl, rfl, rfl⟩ | ⟨rfl, rfl, rfl⟩
      all_goals clear hS hT hc
      · skip
        have u0 : decide (s < s + 1) = true := decide_eq_true (by omega)
        have u1 : (s == s + 1) = false := by simp; omega
        have u2 : decide (o < o + 1) = true := decide_eq_true (by omega)
        have u3 : (o == o + 1) = false := by simp; omega
        have u4 : (o + 1 == o) = false := by simp; omega
        go_wp2
        go_ret
        exact ⟨by first | rfl | exact ret_bool (by simp) | exact ret_bool (by simp; omega), hB⟩
      · skip
        have u0 : decide (s < s + 1) = true := decide_eq_true (by omega)
        have u1 : (s == s + 1) = false := by simp; omega
        have u2 : decide (bt < bt + 1) = true := decide_eq_true (by omega)
        have u3 : (bt == bt + 1) = false := by simp; omega
        have u4 : (bt + 1 == bt) = false := by simp; omega
        go_wp2
        go_ret
        exact ⟨by first | rfl | exact ret_bool (by simp) | exact ret_bool (by simp; omega), hB⟩
      · skip
        have u0 : decide (s < s + 1) = true := decide_eq_true (by omega)
        have u1 : (s == s + 1) = false := by simp; omega
        have u2 : decide (B < B + 1) = true := decide_eq_true (by omega)
        have u3 : (B == B + 1) = false := by simp; omega
        have u4 : (B + 1 == B) = false := by simp; omega
        go_wp2
        go_ret
        exact ⟨by first | rfl | exact ret_bool (by simp) | exact ret_bool (by simp; omega), hB⟩
    · have hl := spot_lex hc hS hT hst
      clear hS hT hc
      rcases hl with h1 | ⟨rfl, h1 | ⟨rfl, h1⟩⟩
      · skip
        have u0 : decide (s < t) = true := decide_eq_true (by omega)
        have u1 : (s == t) = false := by simp; omega
        have u2 : (t == s) = false := by simp; omega
        have u3 : (t == s + 1) = false := by simpa using hnx
        have u4 : (t != s + 1) = true := by simpa using hnx
        have u5 : decide (B < U) = true := decide_eq_true (by omega)
        have u6 : (B == U) = false := by simp; omega
        go_wp2
        go_ret
        exact ⟨by first | rfl | exact ret_bool (by simp) | exact ret_bool (by simp; omega), hB⟩
      · skip
        have u0 : decide (s < t) = true := decide_eq_true (by omega)
        have u1 : (s == t) = false := by simp; omega
        have u2 : (t == s) = false := by simp; omega
        have u3 : (t == s + 1) = false := by simpa using hnx
        have u4 : (t != s + 1) = true := by simpa using hnx
        have u5 : decide (bt < v) = true := decide_eq_true (by omega)
        have u6 : (bt == v) = false := by simp; omega
        go_wp2
        go_ret
        exact ⟨by first | rfl | exact ret_bool (by simp) | exact ret_bool (by simp; omega), hB⟩
      · skip
        have u0 : decide (s < t) = true := decide_eq_true (by omega)
        have u1 : (s == t) = false := by simp; omega
        have u2 : (t == s) = false := by simp; omega
        have u3 : (t == s + 1) = false := by simpa using hnx
        have u4 : (t != s + 1) = true := by simpa using hnx
        have u5 : decide (o < o2) = true := decide_eq_true (by omega)
        have u6 : (o == o2) = false := by simp; omega
        go_wp2
        go_ret
        exact ⟨by first | rfl | exact ret_bool (by simp) | exact ret_bool (by simp; omega), hB⟩
  · obtain ⟨rfl, rfl, rfl⟩ := spot_same hc hS hT
    clear hS hT hc
    have u0 : (s == s + 1) = false := by simp; omega
    have u1 : (s != s + 1) = true := by simp; omega
    go_wp2
    go_ret
    exact ⟨by first | rfl | exact ret_bool (by simp) | exact ret_bool (by simp; omega), hB⟩
  · have hl := spot_lex hc hT hS hst
    clear hS hT hc
    rcases hl with h1 | ⟨rfl, h1 | ⟨rfl, h1⟩⟩
    · skip
      have u0 : decide (s < t) = false := decide_eq_false (by omega)
      have u1 : (s == t) = false := by simp; omega
      have u2 : (t == s) = false := by simp; omega
      have u3 : (t == s + 1) = false := by simp; omega
      have u4 : (t != s + 1) = true := by simp; omega
      have u5 : decide (B < U) = false := decide_eq_false (by omega)
      have u6 : (B == U) = false := by simp; omega
      go_wp2
      go_ret
      exact ⟨by first | rfl | exact ret_bool (by simp) | exact ret_bool (by simp; omega), hB⟩
    · skip
      have u0 : decide (s < t) = false := decide_eq_false (by omega)
      have u1 : (s == t) = false := by simp; omega
      have u2 : (t == s) = false := by simp; omega
      have u3 : (t == s + 1) = false := by simp; omega
      have u4 : (t != s + 1) = true := by simp; omega
      have u5 : decide (bt < v) = false := decide_eq_false (by omega)
      have u6 : (bt == v) = false := by simp; omega
      go_wp2
      go_ret
      exact ⟨by first | rfl | exact ret_bool (by simp) | exact ret_bool (by simp; omega), hB⟩
    · skip
      have u0 : decide (s < t) = false := decide_eq_false (by omega)
      have u1 : (s == t) = false := by simp; omega
      have u2 : (t == s) = false := by simp; omega
      have u3 : (t == s + 1) = false := by simp; omega
      have u4 : (t != s + 1) = true := by simp; omega
      have u5 : decide (o < o2) = false := decide_eq_false (by omega)
      have u6 : (o == o2) = false := by simp; omega
      go_wp2
      go_ret
      exact ⟨by first | rfl | exact ret_bool (by simp) | exact ret_bool (by simp; omega), hB⟩
end Go.Proofs.Ytkgimglkiniofaa
