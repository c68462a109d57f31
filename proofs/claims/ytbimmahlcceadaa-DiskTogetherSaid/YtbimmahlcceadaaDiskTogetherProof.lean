/- The law DiskTogether returns true for every input, and each argument reads afterwards as it read before. No condition. -/
import Derived.Test.YtbimmahlcceadaaDskLawT
import Derived.Test.YtbimmahlcceadaaDskOpenD
import Derived.WalkKit
import Derived.ProofKit
import Derived.OpenShut
import Derived.ShutString
import Derived.ChangeOld
import Derived.Below
import Derived.Lib.SmallJoins
namespace Go.Proofs.Ytbimmahlcceadaa.diskTogether
open Go.ChangeShapes Go.WideShapes Go.ChangeAt Go.RowKit
open Go.ChangeMaps (open_string shut_string)
set_option linter.unusedVariables false

theorem own : ownKnob Try.prog.godebug = none := by kernel_rfl
theorem laidOut : laidOutB Try.prog = true := by kernel_rfl

theorem walk (sa0 : Option Addr) (sn0 sc0 : Nat) (S0 : List Sl) (pa0 : Option Addr) (pn0 pc0 : Nat) (P0 : List Wr) (a0_2 : Int) (a0_3 : Bool) (a1 : Option Addr) (len1 cap1 : Nat) (z1 : List At) (w : World) (hS0 : LiesS w sa0 sn0 sc0 S0) (hP0 : LiesW w pa0 pn0 pc0 P0) (w0_2 : (Lit.int .i64 a0_2).wf = true) (w1 : LiesA w a1 len1 cap1 z1) :
    Calls Try.prog 8 #[.agg #[.slice sa0 sn0 sc0, .slice pa0 pn0 pc0, .int .i64 a0_2, .bool a0_3], .slice a1 len1 cap1] w fun e w' => e = .returned (.bool true) ∧ Below w.heap.size w w' := by
  have b0_2 := bounds_i64 w0_2
  obtain ⟨sb, so, hS, hsc, hscm, -, hsz⟩ := secs_of hS0
  obtain ⟨pb, po, hP, hpc, hpcm, -, hpz⟩ := pens_of hP0
  unfold maxLen at hscm hpcm
  obtain ⟨ab, ao, hA, -, hn, -, -, -, hwf⟩ := liesA_of w1
  exact diskTogether_walk S0 P0 a0_2 a0_3 sa0 sb so sn0 sc0 pa0 pb po pn0 pc0 a1 ab ao len1 cap1 z1 w hS hP (by omega) (by omega) hpc hpz hsz hA hwf hn

set_option maxRecDepth 100000 in
theorem lifted (os : Os) (started : os.Started) (H : Type) (enc : TypeId × Value → H) :
    ReturnsInHanded {} Try.checked os 8 .any (Rows.diskTogetherSpec.pre6 enc Try.prog Try.f8 Rows.diskTogetherRow.domain false) (Rows.diskTogetherSpec.post enc Try.prog Try.f8 false true false false) := by
  refine returnsInHanded_of_change (C := Try.checked) own started (by kernel_rfl) Try.func8
    (ChangeSpec.witness6 (enc := enc) (C := Try.checked) false ⟨#[], #[.agg #[.slice none 0 0, .slice none 0 0, .int .i64 0, .bool false], .slice none 0 0], []⟩ 8 (by kernel_rfl) (by kernel_rfl) (by kernel_rfl) (by kernel_rfl)) ?_
  intro W base args ds gs before hval0 hW hcnd _
  have hval : ∀ (j : Nat) t v, Try.f8.params[j]? = some t → args[j]? = some v → Value.okWide Try.prog W .any base t v := hval0
  have hW' := hW
  obtain ⟨p, q, hA0, hV, rfl, hfz, hnd⟩ := hW
  have hA : DataW.TrodAll enc Try.prog W 0 (fun _ => true) true Try.f8.params.toList args.toList ds p := hA0
  rw [Try.params8] at hA hval
  obtain ⟨v0, vs0, d0, ds0, p0, q0, hargs, rfl, rfl, h0, r0⟩ := trodAll_cons hA
  obtain ⟨v1, vs1, d1, ds1, p1, q1, rfl, rfl, rfl, h1, r1⟩ := trodAll_cons r0
  obtain ⟨rfl, rfl, rfl⟩ := trodAll_nil r1
  obtain rfl : args = #[v0, v1] := by cases args; simp_all
  obtain ⟨rfl, rfl⟩ := trodVars_none hV
  have k0 := h0
  have lt0 : ∀ x ∈ p0, x.block < W.heap.size := by obtain ⟨m, hm⟩ := k0; exact DataW.trod_lt m _ _ _ hm
  obtain ⟨c0_0, c0_1, c0_2, c0_3, y0_0, y0_1, y0_2, y0_3, m0, rfl, -, -, hy0_0, hy0_1, hy0_2, hy0_3⟩ := Joins.open_agg4 Try.underlying25 (by kernel_rfl) (by kernel_rfl) (hval 0 25 v0 rfl rfl) h0
  obtain ⟨sa0, sn0, sc0, S0, e0_0, hS0⟩ := open_slotS Try.underlying22 Try.underlying35 Try.underlying5 (by kernel_rfl) (by kernel_rfl) (by simpa using hy0_0)
  subst e0_0
  obtain ⟨pa0, pn0, pc0, P0, e0_1, hP0⟩ := open_slotW Try.underlying23 Try.underlying54 (by kernel_rfl) (by kernel_rfl) Try.underlying3 rfl Try.underlying35 Try.underlying5 (by kernel_rfl) (by simpa using hy0_1)
  subst e0_1
  obtain ⟨a0_2, e0_2, -, w0_2⟩ := DataW.trod_int Try.underlying3 hy0_2
  simp at e0_2; subst e0_2
  obtain ⟨a0_3, e0_3, -⟩ := DataW.trod_bool Try.underlying4 hy0_3
  simp at e0_3; subst e0_3
  obtain ⟨a1, len1, cap1, rfl⟩ := okWide_slice Try.underlying43 (hval 1 43 v1 rfl rfl)
  have k1 := h1
  have lt1 : ∀ x ∈ p1, x.block < W.heap.size := by obtain ⟨m, hm⟩ := k1; exact DataW.trod_lt m _ _ _ hm
  obtain ⟨z1, w1⟩ : ∃ l, LiesA W a1 len1 cap1 l := by
    obtain ⟨fuel, hf⟩ := h1
    exact open_liesA Try.underlying43 Try.underlying46 (by kernel_rfl) (by kernel_rfl) Try.underlying4 Try.underlying5 Try.underlying5 hf
  clear hA0 hval0
  refine (walk sa0 sn0 sc0 S0 pa0 pn0 pc0 P0 a0_2 a0_3 a1 len1 cap1 z1 W hS0 hP0 w0_2 w1).mono fun e W' ⟨he, bel⟩ => ?_
  subst he
  exact ⟨_, rfl, _, _, _, [], _, [], hW', trodAll_mk1 (shut_bool Try.underlying4 _), (trodAll_cons_mk (Below.trod laidOut (by kernel_rfl) (of_decide_eq_true (by kernel_rfl)) k0 bel lt0) (trodAll_cons_mk (Below.trod laidOut (by kernel_rfl) (of_decide_eq_true (by kernel_rfl)) k1 bel lt1) trodAll_mk0)), rfl, bel.frame _, fun h => by cases h⟩

theorem over : Rows.diskTogetherRow.holds Try.pinned (OpenSpec.ofChange Rows.diskTogetherSpec) :=
  OpenClaim.holds_of_wide 8 Try.f8 rfl rfl rfl rfl rfl rfl rfl ⟨rfl, rfl, rfl, rfl, rfl⟩ rfl rfl rfl rfl rfl (by kernel_rfl) Try.func8 (by kernel_rfl)
    (of_decide_eq_true (by kernel_rfl)) (by unfold Func.isWrapper; first | (rw [if_pos (by decide +kernel)]; kernel_rfl) | (rw [if_neg (by decide +kernel)]; exact ⟨rfl, rfl⟩))
    (fun os started H enc _ => lifted os started H enc)

theorem proved : Rows.DiskTogetherSaid := over
#print axioms proved
end Go.Proofs.Ytbimmahlcceadaa.diskTogether
