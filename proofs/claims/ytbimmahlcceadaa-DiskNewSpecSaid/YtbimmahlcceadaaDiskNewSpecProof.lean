/- The law DiskNewSpec returns true for every input, and each argument reads afterwards as it read before. No condition. -/
import Derived.Test.YtbimmahlcceadaaDskLawN
import Derived.Test.YtbimmahlcceadaaDskOpenD
import Derived.WalkKit
import Derived.ProofKit
import Derived.OpenShut
import Derived.ShutString
import Derived.ChangeOld
import Derived.Below
import Derived.Lib.SmallJoins
namespace Go.Proofs.Ytbimmahlcceadaa.diskNewSpec
open Go.ChangeShapes Go.WideShapes Go.ChangeAt Go.RowKit
open Go.ChangeMaps (open_string shut_string)
set_option linter.unusedVariables false

theorem own : ownKnob Try.prog.godebug = none := by kernel_rfl
theorem laidOut : laidOutB Try.prog = true := by kernel_rfl

theorem walk (a0 : Int) (sa1 : Option Addr) (sn1 sc1 : Nat) (S1 : List Sl) (pa1 : Option Addr) (pn1 pc1 : Nat) (P1 : List Wr) (a1_2 : Int) (a1_3 : Bool) (w : World) (w0 : (Lit.int .i64 a0).wf = true) (hS1 : LiesS w sa1 sn1 sc1 S1) (hP1 : LiesW w pa1 pn1 pc1 P1) (w1_2 : (Lit.int .i64 a1_2).wf = true) :
    Calls Try.prog 3 #[.int .i64 a0, .agg #[.slice sa1 sn1 sc1, .slice pa1 pn1 pc1, .int .i64 a1_2, .bool a1_3]] w fun e w' => e = .returned (.bool true) ∧ Below w.heap.size w w' := by
  have b0 := bounds_i64 w0
  have b1_2 := bounds_i64 w1_2
  obtain ⟨sb, so, hS, hsc, hscm, -, hsz⟩ := secs_of hS1
  obtain ⟨pb, po, hP, hpc, hpcm, -, hpz⟩ := pens_of hP1
  unfold maxLen at hscm hpcm
  exact diskNewSpec_walk S1 P1 a1_2 a1_3 sa1 sb so sn1 sc1 pa1 pb po pn1 pc1 a0 w hS hP (by omega) (by omega) hpc hpz hsz

set_option maxRecDepth 100000 in
theorem lifted (os : Os) (started : os.Started) (H : Type) (enc : TypeId × Value → H) :
    ReturnsInHanded {} Try.checked os 3 .any (Rows.diskNewSpecSpec.pre6 enc Try.prog Try.f3 Rows.diskNewSpecRow.domain false) (Rows.diskNewSpecSpec.post enc Try.prog Try.f3 false true false false) := by
  refine returnsInHanded_of_change (C := Try.checked) own started (by kernel_rfl) Try.func3
    (ChangeSpec.witness6 (enc := enc) (C := Try.checked) false ⟨#[], #[.int .i64 0, .agg #[.slice none 0 0, .slice none 0 0, .int .i64 0, .bool false]], []⟩ 8 (by kernel_rfl) (by kernel_rfl) (by kernel_rfl) (by kernel_rfl)) ?_
  intro W base args ds gs before hval0 hW hcnd _
  have hval : ∀ (j : Nat) t v, Try.f3.params[j]? = some t → args[j]? = some v → Value.okWide Try.prog W .any base t v := hval0
  have hW' := hW
  obtain ⟨p, q, hA0, hV, rfl, hfz, hnd⟩ := hW
  have hA : DataW.TrodAll enc Try.prog W 0 (fun _ => true) true Try.f3.params.toList args.toList ds p := hA0
  rw [Try.params3] at hA hval
  obtain ⟨v0, vs0, d0, ds0, p0, q0, hargs, rfl, rfl, h0, r0⟩ := trodAll_cons hA
  obtain ⟨v1, vs1, d1, ds1, p1, q1, rfl, rfl, rfl, h1, r1⟩ := trodAll_cons r0
  obtain ⟨rfl, rfl, rfl⟩ := trodAll_nil r1
  obtain rfl : args = #[v0, v1] := by cases args; simp_all
  obtain ⟨rfl, rfl⟩ := trodVars_none hV
  obtain ⟨a0, rfl, rfl, rfl, w0⟩ := open_int Try.underlying3 (hval 0 3 v0 rfl rfl) h0
  have k1 := h1
  have lt1 : ∀ x ∈ p1, x.block < W.heap.size := by obtain ⟨m, hm⟩ := k1; exact DataW.trod_lt m _ _ _ hm
  obtain ⟨c1_0, c1_1, c1_2, c1_3, y1_0, y1_1, y1_2, y1_3, m1, rfl, -, -, hy1_0, hy1_1, hy1_2, hy1_3⟩ := Joins.open_agg4 Try.underlying25 (by kernel_rfl) (by kernel_rfl) (hval 1 25 v1 rfl rfl) h1
  obtain ⟨sa1, sn1, sc1, S1, e1_0, hS1⟩ := open_slotS Try.underlying22 Try.underlying35 Try.underlying5 (by kernel_rfl) (by kernel_rfl) (by simpa using hy1_0)
  subst e1_0
  obtain ⟨pa1, pn1, pc1, P1, e1_1, hP1⟩ := open_slotW Try.underlying23 Try.underlying54 (by kernel_rfl) (by kernel_rfl) Try.underlying3 rfl Try.underlying35 Try.underlying5 (by kernel_rfl) (by simpa using hy1_1)
  subst e1_1
  obtain ⟨a1_2, e1_2, -, w1_2⟩ := DataW.trod_int Try.underlying3 hy1_2
  simp at e1_2; subst e1_2
  obtain ⟨a1_3, e1_3, -⟩ := DataW.trod_bool Try.underlying4 hy1_3
  simp at e1_3; subst e1_3
  clear hA0 hval0
  refine (walk a0 sa1 sn1 sc1 S1 pa1 pn1 pc1 P1 a1_2 a1_3 W w0 hS1 hP1 w1_2).mono fun e W' ⟨he, bel⟩ => ?_
  subst he
  exact ⟨_, rfl, _, _, _, [], _, [], hW', trodAll_mk1 (shut_bool Try.underlying4 _), (trodAll_cons_mk (shut_int Try.underlying3 w0) (trodAll_cons_mk (Below.trod laidOut (by kernel_rfl) (of_decide_eq_true (by kernel_rfl)) k1 bel lt1) trodAll_mk0)), rfl, bel.frame _, fun h => by cases h⟩

theorem over : Rows.diskNewSpecRow.holds Try.pinned (OpenSpec.ofChange Rows.diskNewSpecSpec) :=
  OpenClaim.holds_of_wide 3 Try.f3 rfl rfl rfl rfl rfl rfl rfl ⟨rfl, rfl, rfl, rfl, rfl⟩ rfl rfl rfl rfl rfl (by kernel_rfl) Try.func3 (by kernel_rfl)
    (of_decide_eq_true (by kernel_rfl)) (by unfold Func.isWrapper; first | (rw [if_pos (by decide +kernel)]; kernel_rfl) | (rw [if_neg (by decide +kernel)]; exact ⟨rfl, rfl⟩))
    (fun os started H enc _ => lifted os started H enc)

theorem proved : Rows.DiskNewSpecSaid := over
#print axioms proved
end Go.Proofs.Ytbimmahlcceadaa.diskNewSpec
