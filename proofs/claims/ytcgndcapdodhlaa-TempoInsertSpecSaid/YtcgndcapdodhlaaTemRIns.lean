/- The reference's Insert (layer 9). -/
import Derived.Test.YtcgndcapdodhlaaTemIns
import Derived.Test.YtcgndcapdodhlaaTemRef
namespace Go.Proofs.Ytcgndcapdodhlaa
open Go.ChangeShapes Go.WideShapes Go.ChangeAt Go.RowKit Go.Shelf

section
variable {ops : Array Oper} {o : Oper} {rest : List Oper} {a : Act} {Q : Exit → Act → World → Prop} {w : World}
theorem wpList_append_ts (hgd : o.guard = none) (s x : Operand) (ho : o.op = .call { callee := .builtin .append, args := #[s, x], argTypes := #[22, 22] })
    (B : Nat) (v : Value) (l : List Tp) (hs : a.eval s = v) (hown : TsO w B v l) (ax : Option Addr) (b off n c : Nat) (l2 : List Tp) (hx : a.eval x = .slice ax n c) (hr : Ts w ax n b off l2) (hnc : ax = none → c = 0)
    (hlen : l.length + n ≤ 1000000) (hB : B ≤ w.heap.size)
    (h : ∀ v' w', TsO w' B v' (l ++ l2) → Below B w w' → w.grownBy w' v.ownBlock → wpList Try.prog ops Q rest (a.put o.dst v') w') : wpList Try.prog ops Q (o :: rest) a w :=
  wpList_plain hgd fun _ hK => wp_append_ts s x ho B v l hs hown ax b off n c l2 hx hr hnc hlen hB fun v' w' h1 h2 h3 => hK _ _ (h v' w' h1 h2 h3)
theorem wpList_append_t (hgd : o.guard = none) (s x : Operand) (ho : o.op = .call { callee := .builtin .append, args := #[s, x], argTypes := #[22, 22] })
    (B : Nat) (v : Value) (l : List Tp) (hs : a.eval s = v) (hown : TsO w B v l) (g : Nat) (m : Tp) (hx : a.eval x = .slice (some ⟨g, 0, none⟩) 1 1) (tb : TypeId) (fr : Nat × Nat)
    (hc : w.heap[g]? = some (.cells #[.int .i64 m.1, .int .i64 m.2.1, .int .i64 m.2.2.1, .bool m.2.2.2] tb fr)) (hlen : l.length ≤ 1000000) (hB : B ≤ w.heap.size)
    (h : ∀ v' w', TsO w' B v' (l ++ [m]) → Below B w w' → w.grownBy w' v.ownBlock → wpList Try.prog ops Q rest (a.put o.dst v') w') : wpList Try.prog ops Q (o :: rest) a w :=
  wpList_plain hgd fun _ hK => wp_append_t s x ho B v l hs hown g m hx tb fr hc hlen hB fun v' w' h1 h2 h3 => hK _ _ (h v' w' h1 h2 h3)
end

theorem encL_set (m : Tp) : ∀ (l : List Tp) (i : Nat), i < l.length → encL (l.set i m) = ((((encL l).set (i * 4) (.int .i64 m.1)).set (i * 4 + 1) (.int .i64 m.2.1)).set (i * 4 + 2) (.int .i64 m.2.2.1)).set (i * 4 + 3) (.bool m.2.2.2) := by
  intro l
  induction l with
  | nil => intro i h; simp at h
  | cons p l ih =>
    intro i h
    cases i with
    | zero => rfl
    | succ i =>
      have hh := ih i (by simpa using h)
      have e : encL (p :: l) = encT p ++ encL l := by simp [encL]
      have e2 : encL (p :: l.set i m) = encT p ++ encL (l.set i m) := by simp [encL]
      rw [List.set_cons_succ, e2, hh, e]
      have k : ∀ (q : Nat) (v : Value) (xs : List Value), (encT p ++ xs).set (q + 4) v = encT p ++ xs.set q v := fun q v xs => by
        rw [List.set_append_right _ _ (by simp [encT])]; simp [encT]
      rw [show (i + 1) * 4 = i * 4 + 4 by omega, k, show i * 4 + 4 + 1 = i * 4 + 1 + 4 by omega, k, show i * 4 + 4 + 2 = i * 4 + 2 + 4 by omega, k, show i * 4 + 4 + 3 = i * 4 + 3 + 4 by omega, k]
theorem TsO.stored {w : World} {B g n c : Nat} {l : List Tp} (h : TsO w B (.slice (some ⟨g, 0, none⟩) n c) l) (hn : l.length = n) (i : Nat) (hi : i < n) (m : Tp) :
    TsO ((((w.setCell ⟨g, i * 4, none⟩ (.int .i64 m.1)).setCell ⟨g, i * 4 + 1, none⟩ (.int .i64 m.2.1)).setCell ⟨g, i * 4 + 2, none⟩ (.int .i64 m.2.2.1)).setCell ⟨g, i * 4 + 3, none⟩ (.bool m.2.2.2)) B (.slice (some ⟨g, 0, none⟩) n c) (l.set i m) := by
  subst hn
  have h1 := (World.ownsRow.stored h (i * 4) (.int .i64 m.1)).1
  have h2 := (World.ownsRow.stored h1 (i * 4 + 1) (.int .i64 m.2.1)).1
  have h3 := (World.ownsRow.stored h2 (i * 4 + 2) (.int .i64 m.2.2.1)).1
  have h4 := (World.ownsRow.stored h3 (i * 4 + 3) (.bool m.2.2.2)).1
  unfold TsO
  rw [List.length_set, encL_set m l i hi]
  exact h4
theorem TsO.freeAt {w : World} {B g n c : Nat} {l : List Tp} (h : TsO w B (.slice (some ⟨g, 0, none⟩) n c) l) (hn : l.length = n) (i : Nat) : w.frozen? ⟨g, i, none⟩ = false := by
  subst hn
  exact World.ownsRow.frozenAt h i
theorem TsO.cellAt {w : World} {B g n c : Nat} {l : List Tp} (h : TsO w B (.slice (some ⟨g, 0, none⟩) n c) l) (hn : l.length = n) (j : Nat) (hj : j < n * 4) : w.cell? ⟨g, j, none⟩ = (encL l)[j]? := by
  subst hn
  exact World.ownsRow.cellAt h j hj
theorem TsO.inBlock {w : World} {B n : Nat} {v : Value} {l : List Tp} (h : TsO w B v l) (hl : l.length = n) (hn : 0 < n) : ∃ g c, v = .slice (some ⟨g, 0, none⟩) n c ∧ B ≤ g := by
  subst hl
  rcases h.2 with ⟨_, h0⟩ | ⟨g, cap, cur, h1, h2, _⟩
  · omega
  · exact ⟨g, cap, h1, h2⟩
theorem set_mid (l : List Tp) (i : Nat) (m : Tp) (h : i < l.length) : l.set i m = l.take i ++ [m] ++ l.drop (i + 1) := by
  rw [List.set_eq_take_append_cons_drop, if_pos h]; simp

set_option maxRecDepth 100000 in
set_option maxHeartbeats 8000000 in
theorem rinsert_any (a : Option Addr) (b off len cap : Nat) (l : List Tp) (t0 t1 t2 : Int) (t3 : Bool) (w : World) (hM : Ts w a len b off l) (hn : len ≤ 80) (hlc : len ≤ cap) (hnc : a = none → cap = 0) :
    Calls Try.prog 18 #[.slice a len cap, .agg #[.int .i64 t0, .int .i64 t1, .int .i64 t2, .bool t3]] w fun e w' => (∃ A R, InsAt l t0 A R ∧ ((¬ Map (insX l (t0, t1, t2, t3) A R) ∧ e = .returned (.tuple #[.slice none 0 0, .int .i64 90])) ∨ (Map (insX l (t0, t1, t2, t3) A R) ∧ ∃ v, e = .returned (.tuple #[v, .int .i64 0]) ∧ TsO w' w.heap.size v (insX l (t0, t1, t2, t3) A R)))) ∧ Below w.heap.size w w' := by
  have hl := hM.1
  have HM := Lib.hid (show _ ∧ _ from ⟨hM, hl⟩)
  clear hM hl
  have u0 : IntKind.i64.wrap ((len : Int) - 1) = (len : Int) - 1 := wrap_id (by omega)
  go_enter Try.func18, Try.ntmps18
  go_wp2
  go_loopw [6, 7, 8] (fun same before i wr => ∃ k B : Nat, ∃ S : Int, k ≤ len ∧ i = .int .i64 ((k : Int) - 1) ∧ same = .int .i64 S ∧ before = .int .i64 B ∧ ((S = -1 ∧ ∀ j, k ≤ j → j < len → (nthT l j).1 ≠ t0) ∨ (∃ s : Nat, S = s ∧ k ≤ s ∧ s < len ∧ (nthT l s).1 = t0 ∧ ∀ j, k ≤ j → j < s → (nthT l j).1 ≠ t0)) ∧ k ≤ B ∧ B ≤ len ∧ (∀ j, k ≤ j → j < B → (nthT l j).1 ≤ t0) ∧ (B < len → t0 < (nthT l B).1) ∧ wr.heap[w.heap.size]? = some (.cells #[.int .i64 t0, .int .i64 t1, .int .i64 t2, .bool t3] 30 (0, 0)) ∧ Below w.heap.size w wr) (fun _ _ i _ => (intOf i + 1).toNat)
  case atStart => exact ⟨len, len, -1, Nat.le_refl _, rfl, rfl, rfl, .inl ⟨rfl, fun j h1 h2 => by omega⟩, Nat.le_refl _, Nat.le_refl _, fun j h1 h2 => by omega, fun h => by omega, blk_new w _, (Below.refl _ _).alloc (Nat.le_refl _) _⟩
  case round =>
    obtain ⟨k, B, S, hk, rfl, rfl, rfl, hS, hkB, hBl, hB1, hB2, hbx, hB⟩ := hrel
    by_cases hk0 : 0 < k
    · obtain ⟨j, rfl⟩ : ∃ j, k = j + 1 := ⟨k - 1, by omega⟩
      have ej : (((j + 1 : Nat) : Int) - 1) = (j : Int) := by omega
      rw [ej]
      have hjl : j < len := by omega
      have hbw := (Array.getElem?_eq_some_iff.1 hbx).1
      have d0 := blk_cell hbx 0
      simp at d0
      obtain ⟨rfl, hbb⟩ := HM.out.1.2.1 (by omega)
      obtain ⟨c0, _, _, _⟩ := (HM.out.1.grown hB).2.2 j hjl
      have hs := hB.size
      have uj : IntKind.i64.wrap ((j : Int) - 1) = (j : Int) - 1 := wrap_id (by omega)
      have HH := Lib.hid (show _ ∧ _ ∧ _ ∧ _ ∧ _ ∧ _ ∧ _ ∧ _ ∧ _ from ⟨hS, hkB, hBl, hB1, hB2, hbx, hB, hk, hjl⟩)
      have i2 : (j : Int) < (len : Int) := by omega
      clear hS hkB hBl hB1 hB2 hbx hB hk ej
      generalize hT : (nthT l j).1 = T at *
      have HT := Lib.hid hT
      clear hT
      rcases Int.lt_trichotomy T t0 with q | q | q
      · have z1 : (T == t0) = false := by simp; omega
        have z2 : decide (t0 < T) = false := decide_eq_false (by omega)
        go_wp2
        go_quiet (fail)
        go_wp2
        go_quiet (fail)
        go_wp2
        go_roundw
        case rel =>
          obtain ⟨hS, hkB, hBl, hB1, hB2, hbx, hB, hk, hjl⟩ := HH.out
          have hT := HT.out
          refine ⟨j, B, S, by omega, rfl, rfl, rfl, ?_, by omega, hBl, fun q h1 h2 => ?_, hB2, hbx, ⟨hB.os, hB.tape, hB.output, hB.size, hB.block⟩⟩
          · rcases hS with ⟨e, h⟩ | ⟨s, e, h1, h2, h3, h4⟩
            · refine .inl ⟨e, fun q h1 h2 => ?_⟩
              rcases Nat.eq_or_lt_of_le h1 with e | e
              · subst e; omega
              · exact h q e h2
            · refine .inr ⟨s, e, by omega, h2, h3, fun q g1 g2 => ?_⟩
              rcases Nat.eq_or_lt_of_le g1 with e | e
              · subst e; omega
              · exact h4 q e g2
          · rcases Nat.eq_or_lt_of_le h1 with e | e
            · subst e; omega
            · exact hB1 q e h2
        case measure => simp [intOf] <;> omega
      · subst q
        go_wp2
        go_quiet (fail)
        go_wp2
        go_quiet (fail)
        go_wp2
        go_roundw
        case rel =>
          obtain ⟨hS, hkB, hBl, hB1, hB2, hbx, hB, hk, hjl⟩ := HH.out
          have hT := HT.out
          refine ⟨j, B, j, by omega, rfl, rfl, rfl, .inr ⟨j, rfl, Nat.le_refl _, hjl, hT, fun q h1 h2 => by omega⟩, by omega, hBl, fun q h1 h2 => ?_, hB2, hbx, ⟨hB.os, hB.tape, hB.output, hB.size, hB.block⟩⟩
          rcases Nat.eq_or_lt_of_le h1 with e | e
          · subst e; omega
          · exact hB1 q e h2
        case measure => simp [intOf] <;> omega
      · have z1 : (T == t0) = false := by simp; omega
        have z2 : decide (t0 < T) = true := decide_eq_true (by omega)
        go_wp2
        go_quiet (fail)
        go_wp2
        go_quiet (fail)
        go_wp2
        go_roundw
        case rel =>
          obtain ⟨hS, hkB, hBl, hB1, hB2, hbx, hB, hk, hjl⟩ := HH.out
          have hT := HT.out
          refine ⟨j, j, S, by omega, rfl, rfl, rfl, ?_, Nat.le_refl _, by omega, fun q h1 h2 => by omega, fun _ => by rw [hT]; exact q, hbx, ⟨hB.os, hB.tape, hB.output, hB.size, hB.block⟩⟩
          rcases hS with ⟨e, h⟩ | ⟨s, e, h1, h2, h3, h4⟩
          · refine .inl ⟨e, fun q h1 h2 => ?_⟩
            rcases Nat.eq_or_lt_of_le h1 with e | e
            · subst e; omega
            · exact h q e h2
          · refine .inr ⟨s, e, by omega, h2, h3, fun q g1 g2 => ?_⟩
            rcases Nat.eq_or_lt_of_le g1 with e | e
            · subst e; omega
            · exact h4 q e g2
        case measure => simp [intOf] <;> omega
    · obtain rfl : k = 0 := by omega
      have Z0 := Lib.hid hbx
      clear hbx hk hkB
      rcases hS with ⟨rfl, hne⟩ | ⟨s, rfl, _, hsl, hst, hsne⟩
      · have hIns : InsAt l t0 B B := .inr ⟨rfl, by rw [HM.out.2]; exact hBl, by rw [HM.out.2]; exact fun j hj => hne j (Nat.zero_le _) hj, fun j hj => by
          have := hB1 j (Nat.zero_le _) hj; have := hne j (Nat.zero_le _) (by omega); omega, by rw [HM.out.2]; exact hB2⟩
        clear hne hB1 hB2
        go_wp2_with (at_builtin; refine wpList_append_ts rfl (.tmp 37) (.tmp 38) rfl wr.heap.size _ [] rfl (TsO.empty _) _ b off _ _ l rfl ((HM.out.1.grown hB).grown (by go_grown)) hnc (by simp; omega) (by simp) ?_; intro v1 W1 hO1 hb1 hG1; clear hG1 hO1; have hBW : Below wr.heap.size wr W1 := ((Below.refl _ _).alloc (Nat.le_refl _) _).trans hb1; clear hb1; have hbW := blk_below Z0.out hBW (Array.getElem?_eq_some_iff.1 Z0.out).1; have hBB := below_after hB hBW hB.size; have HBB := Lib.hid (show _ ∧ _ from ⟨hBB, hbW⟩); clear hBB hBW hbW)
        have hB := HBB.out.1
        have hbw := (Array.getElem?_eq_some_iff.1 HBB.out.2).1
        have d0 := blk_cell HBB.out.2 0; have d1 := blk_cell HBB.out.2 1; have d2 := blk_cell HBB.out.2 2; have d3 := blk_cell HBB.out.2 3
        simp at d0 d1 d2 d3
        obtain ⟨b3, o3, hP, hPn⟩ := (HM.out.1.grown hB).post (k := B) (cap := cap) hBl hlc hnc
        have hQ := (HM.out.1.grown hB).pre (k := B) hBl
        obtain ⟨a3, ha3⟩ : ∃ a3, a3 = (if cap = B then a else a.map (·.add (B * 4))) := ⟨_, rfl⟩
        rw [← ha3] at hP hPn
        have HA3 := Lib.hid ha3
        have HPQ := Lib.hid (show _ ∧ _ ∧ _ ∧ _ ∧ _ from ⟨hP, hPn, hQ, hB, hIns⟩)
        have i2 : (B : Int) ≤ (len : Int) := by omega
        have i3 : B ≤ cap := by omega
        have i1 : (B : Int) ≤ (cap : Int) := by omega
        have hWs := hB.size
        clear ha3 hP hPn hQ hIns hB
        refine wp_region_from 1 3 (fun w' => w'.cell? ⟨w.heap.size, 0, none⟩ = some (.int .i64 t0) ∧ w'.cell? ⟨w.heap.size, 1, none⟩ = some (.int .i64 t1) ∧ w'.cell? ⟨w.heap.size, 2, none⟩ = some (.int .i64 t2) ∧ w'.cell? ⟨w.heap.size, 3, none⟩ = some (.bool t3)) (by kernel_rfl) (by kernel_rfl) (by decide) (by kernel_rfl) ⟨d0, d1, d2, d3⟩ ?_
        simp only [List.drop_succ_cons, List.drop_zero, List.take_succ_cons, List.take_zero]
        refine wpHeld_cons (.slice a len cap) (by kernel_rfl) ?_ ?_
        · rintro w' ⟨s0, s1, s2, s3⟩
          try go_simp
        refine wpHeld_cons (.int .i64 B) (by kernel_rfl) ?_ ?_
        · rintro w' ⟨s0, s1, s2, s3⟩
          try go_simp
        refine wpHeld_cons (.slice a B cap) (by kernel_rfl) ?_ ?_
        · rintro w' ⟨s0, s1, s2, s3⟩
          cases a
          · have hc0 := hnc rfl
            have hA0 : B = 0 := by omega
            first
              | (exfalso; omega)
              | (simp only [hA0, hc0]
                 go_simp)
          · try go_simp
            try (first | omega | (intro h; exfalso; omega))
        refine wpHeld_nil ?_
        go_simp
        refine wpAnyH_from 5 1 (fun _ _ _ _ _ h => h) (by kernel_rfl) (by decide) (by kernel_rfl) ⟨d0, d1, d2, d3⟩ ?_
        simp only [List.drop_succ_cons, List.drop_zero, List.take_succ_cons, List.take_zero]
        refine wpHeld_cons (.agg #[.int .i64 t0, .int .i64 t1, .int .i64 t2, .bool t3]) (by kernel_rfl) ?_ ?_
        · rintro w' ⟨s0, s1, s2, s3⟩
          try go_simp
        refine wpHeld_nil ?_
        go_simp
        refine wpAnyH_from 8 3 (fun _ _ _ _ _ h => h) (by kernel_rfl) (by decide) (by kernel_rfl) ⟨d0, d1, d2, d3⟩ ?_
        simp only [List.drop_succ_cons, List.drop_zero, List.take_succ_cons, List.take_zero]
        refine wpHeld_cons (.slice a len cap) (by kernel_rfl) ?_ ?_
        · rintro w' ⟨s0, s1, s2, s3⟩
          try go_simp
        refine wpHeld_cons (.int .i64 B) (by kernel_rfl) ?_ ?_
        · rintro w' ⟨s0, s1, s2, s3⟩
          try go_simp
        refine wpHeld_cons (.slice a3 (len - B : Nat) (cap - B : Nat)) (by kernel_rfl) ?_ ?_
        · rintro w' ⟨s0, s1, s2, s3⟩
          rw [HA3.out]
          cases a
          · have hc0 := hnc rfl
            have hR0 : B = 0 := by omega
            have hl0 : len = 0 := by omega
            first
              | (exfalso; omega)
              | (simp only [hR0, hc0, hl0]
                 go_simp)
          · try go_simp
            try (first | omega | (intro h; exfalso; omega))
        refine wpHeld_nil ?_
        go_simp
        refine wpAnyH_two (i := 0) (j := 6) (by kernel_rfl) rfl rfl (by kernel_rfl) (by kernel_rfl) (fun K' hK' => ?_) (fun K' hK' => ?_)
        · go_simp
          refine hK' _ _ ⟨cell_alloc_keep d0 _, cell_alloc_keep d1 _, cell_alloc_keep d2 _, cell_alloc_keep d3 _⟩ ?_
          clear hK' K'
          have hBW0 : Below W1.heap.size W1 (W1.drew.alloc (.cells #[] 30)) := (Below.refl _ _).drew.alloc (by show W1.heap.size ≤ W1.heap.size; omega) _
          refine wpAnyH_two (i := 4) (j := 6) (by kernel_rfl) rfl rfl (by kernel_rfl) (by kernel_rfl) (fun K' hK' => ?_) (fun K' hK' => ?_)
          · refine wp_append_ts (.tmp 46) (.tmp 49) (by rfl) W1.heap.size _ [] (by rfl) (TsO.empty W1.drew) a _ _ B cap (l.take B) (by rfl) (HPQ.out.2.2.1.grown hBW0) hnc (by simp; omega) hBW0.size ?_
            intro v4 W4 hO4 hB4 _
            rw [List.nil_append] at hO4
            have hB4' := hBW0.trans hB4
            have e0 := (hB4'.cell (p := ⟨w.heap.size, 0, none⟩) hbw).trans d0
            have e1 := (hB4'.cell (p := ⟨w.heap.size, 1, none⟩) hbw).trans d1
            have e2 := (hB4'.cell (p := ⟨w.heap.size, 2, none⟩) hbw).trans d2
            have e3 := (hB4'.cell (p := ⟨w.heap.size, 3, none⟩) hbw).trans d3
            refine hK' _ _ ⟨e0, e1, e2, e3⟩ ?_
            clear hK' K'
            refine wpAnyH_one (i := 6) (by kernel_rfl) rfl (by kernel_rfl) (fun K' hK' => ?_)
            go_simp
            refine hK' _ _ ⟨cell_alloc_keep e0 _, cell_alloc_keep e1 _, cell_alloc_keep e2 _, cell_alloc_keep e3 _⟩ ?_
            clear hK' K'
            have HB1 := Lib.hid (hB4'.alloc hB4'.size (.cells #[.int .i64 t0, .int .i64 t1, .int .i64 t2, .bool t3] 30))
            have hs1 := HB1.out.size
            have gb := blk_new W4 (.cells #[.int .i64 t0, .int .i64 t1, .int .i64 t2, .bool t3] 30)
            have HO1 := Lib.hid (hO4.alloc (.cells #[.int .i64 t0, .int .i64 t1, .int .i64 t2, .bool t3] 30))
            refine wpAnyH_one (i := 7) (by kernel_rfl) rfl (by kernel_rfl) (fun K' hK' => ?_)
            refine wp_append_t (.tmp 50) (.tmp 52) (by rfl) W1.heap.size v4 _ (by rfl) HO1.out _ (t0, t1, t2, t3) (by rfl) _ _ gb (by have := HM.out.2; simp; omega) hs1 ?_
            intro v2 W2 hO2 hB2 _
            have hB2' := HB1.out.trans hB2
            have e0 := (hB2'.cell (p := ⟨w.heap.size, 0, none⟩) hbw).trans d0
            have e1 := (hB2'.cell (p := ⟨w.heap.size, 1, none⟩) hbw).trans d1
            have e2 := (hB2'.cell (p := ⟨w.heap.size, 2, none⟩) hbw).trans d2
            have e3 := (hB2'.cell (p := ⟨w.heap.size, 3, none⟩) hbw).trans d3
            refine hK' _ _ ⟨e0, e1, e2, e3⟩ ?_
            clear hK' K' hB2
            refine wpAnyH_one (i := 11) (by kernel_rfl) rfl (by kernel_rfl) (fun K' hK' => ?_)
            refine wp_append_ts (.tmp 53) (.tmp 56) (by rfl) W1.heap.size v2 _ (by rfl) hO2 a3 b3 o3 (len - B) (cap - B) (l.drop B) (by rfl) (HPQ.out.1.grown hB2') HPQ.out.2.1 (by have := HM.out.2; simp; omega) hB2'.size ?_
            intro v3 W3 hO3 hB3 _
            have hB3' := hB2'.trans hB3
            have e0 := (hB3'.cell (p := ⟨w.heap.size, 0, none⟩) hbw).trans d0
            have e1 := (hB3'.cell (p := ⟨w.heap.size, 1, none⟩) hbw).trans d1
            have e2 := (hB3'.cell (p := ⟨w.heap.size, 2, none⟩) hbw).trans d2
            have e3 := (hB3'.cell (p := ⟨w.heap.size, 3, none⟩) hbw).trans d3
            refine hK' _ _ ⟨e0, e1, e2, e3⟩ ?_
            clear hK' K'
            have hC2 := HPQ.out.2.2.2.1.trans (hB3'.mono hWs)
            obtain ⟨a6, g6, c6, rfl, hT6, hb6, _, _, _⟩ := hO3.ts
            obtain ⟨X, hX⟩ : ∃ X, X = insX l (t0, t1, t2, t3) B B := ⟨_, rfl⟩
            have hX2 : l.take B ++ [(t0, t1, t2, t3)] ++ l.drop B = X := hX.symm
            rw [hX2] at hO3 hT6 hb6 ⊢
            have hXl : X.length ≤ 1000001 := by rw [← hX2]; have := HM.out.2; simp; omega
            have HX := Lib.hid (show _ ∧ _ ∧ _ ∧ _ from ⟨hX, hO3, hT6, hC2⟩)
            clear hX hX2 hO3 hT6 hb6 hC2 hB3' hB3 hB2' hO2 HB1 HO1
            refine wpAnyH_one (i := 12) (by kernel_rfl) rfl (by kernel_rfl) (fun K' hK' => ?_)
            go_simp
            refine hK' _ _ ⟨e0, e1, e2, e3⟩ ?_
            clear hK' K'
            refine wpAnyH_done (by kernel_rfl) ?_ _
            refine NoPanic.normal ?_
            go_wp2_with fail
            refine (rcheck_any a6 X.length c6 g6 0 X W3 HX.out.2.2.1 (by omega)).mono ?_
            rintro e W4 ⟨rfl, hb4⟩
            have hC3 := below_after HX.out.2.2.2 hb4 HX.out.2.2.2.size
            have hO4 := (HX.out.2.1.below hb4 (Nat.le_refl _)).mono (B' := w.heap.size) hWs
            clear hb4
            by_cases hmap : Map X
            · rw [chk_yes hmap]
              go_wp2
              exact bodyPost_ret (v := .tuple #[.slice a6 X.length c6, .int .i64 0]) (by simp [results, Try.results18, go_sem]) rfl ⟨⟨B, B, HPQ.out.2.2.2.2, .inr ⟨by rw [← HX.out.1]; exact hmap, _, rfl, by rw [← HX.out.1]; exact hO4⟩⟩, hC3⟩
            · rw [chk_no hmap]
              go_wp2
              exact bodyPost_ret (v := .tuple #[.slice none 0 0, .int .i64 90]) (by simp [results, Try.results18, go_sem]) rfl ⟨⟨B, B, HPQ.out.2.2.2.2, .inl ⟨by rw [← HX.out.1]; exact hmap, rfl⟩⟩, hC3⟩
          · go_simp
            refine hK' _ _ ⟨cell_alloc_keep (cell_alloc_keep d0 _) _, cell_alloc_keep (cell_alloc_keep d1 _) _, cell_alloc_keep (cell_alloc_keep d2 _) _, cell_alloc_keep (cell_alloc_keep d3 _) _⟩ ?_
            clear hK' K'
            have hBW6 : Below W1.heap.size W1 ((W1.drew.alloc (.cells #[] 30)).alloc (.cells #[.int .i64 t0, .int .i64 t1, .int .i64 t2, .bool t3] 30)) := hBW0.alloc hBW0.size _
            refine wpAnyH_one (i := 4) (by kernel_rfl) rfl (by kernel_rfl) (fun K' hK' => ?_)
            refine wp_append_ts (.tmp 46) (.tmp 49) (by rfl) W1.heap.size _ [] (by rfl) ((TsO.empty W1.drew).alloc _) a _ _ B cap (l.take B) (by rfl) (HPQ.out.2.2.1.grown hBW6) hnc (by simp; omega) hBW6.size ?_
            intro v4 W4 hO4 hB4 hG4
            rw [List.nil_append] at hO4
            have gb1 := blk_new (W1.drew.alloc (.cells #[] 30)) (.cells #[.int .i64 t0, .int .i64 t1, .int .i64 t2, .bool t3] 30)
            rw [World.size_alloc] at gb1
            have gb0 := (hG4.block (W1.heap.size + 1) (by simp) (by simp [Value.ownBlock])).trans gb1
            have hB4' := hBW6.trans hB4
            have e0 := (hB4'.cell (p := ⟨w.heap.size, 0, none⟩) hbw).trans d0
            have e1 := (hB4'.cell (p := ⟨w.heap.size, 1, none⟩) hbw).trans d1
            have e2 := (hB4'.cell (p := ⟨w.heap.size, 2, none⟩) hbw).trans d2
            have e3 := (hB4'.cell (p := ⟨w.heap.size, 3, none⟩) hbw).trans d3
            refine hK' _ _ ⟨e0, e1, e2, e3⟩ ?_
            clear hK' K'
            have HB1 := Lib.hid hB4'
            have hs1 := HB1.out.size
            have gb := gb0
            have HO1 := Lib.hid hO4
            refine wpAnyH_one (i := 7) (by kernel_rfl) rfl (by kernel_rfl) (fun K' hK' => ?_)
            refine wp_append_t (.tmp 50) (.tmp 52) (by rfl) W1.heap.size v4 _ (by rfl) HO1.out _ (t0, t1, t2, t3) (by rfl) _ _ gb (by have := HM.out.2; simp; omega) hs1 ?_
            intro v2 W2 hO2 hB2 _
            have hB2' := HB1.out.trans hB2
            have e0 := (hB2'.cell (p := ⟨w.heap.size, 0, none⟩) hbw).trans d0
            have e1 := (hB2'.cell (p := ⟨w.heap.size, 1, none⟩) hbw).trans d1
            have e2 := (hB2'.cell (p := ⟨w.heap.size, 2, none⟩) hbw).trans d2
            have e3 := (hB2'.cell (p := ⟨w.heap.size, 3, none⟩) hbw).trans d3
            refine hK' _ _ ⟨e0, e1, e2, e3⟩ ?_
            clear hK' K' hB2
            refine wpAnyH_one (i := 11) (by kernel_rfl) rfl (by kernel_rfl) (fun K' hK' => ?_)
            refine wp_append_ts (.tmp 53) (.tmp 56) (by rfl) W1.heap.size v2 _ (by rfl) hO2 a3 b3 o3 (len - B) (cap - B) (l.drop B) (by rfl) (HPQ.out.1.grown hB2') HPQ.out.2.1 (by have := HM.out.2; simp; omega) hB2'.size ?_
            intro v3 W3 hO3 hB3 _
            have hB3' := hB2'.trans hB3
            have e0 := (hB3'.cell (p := ⟨w.heap.size, 0, none⟩) hbw).trans d0
            have e1 := (hB3'.cell (p := ⟨w.heap.size, 1, none⟩) hbw).trans d1
            have e2 := (hB3'.cell (p := ⟨w.heap.size, 2, none⟩) hbw).trans d2
            have e3 := (hB3'.cell (p := ⟨w.heap.size, 3, none⟩) hbw).trans d3
            refine hK' _ _ ⟨e0, e1, e2, e3⟩ ?_
            clear hK' K'
            have hC2 := HPQ.out.2.2.2.1.trans (hB3'.mono hWs)
            obtain ⟨a6, g6, c6, rfl, hT6, hb6, _, _, _⟩ := hO3.ts
            obtain ⟨X, hX⟩ : ∃ X, X = insX l (t0, t1, t2, t3) B B := ⟨_, rfl⟩
            have hX2 : l.take B ++ [(t0, t1, t2, t3)] ++ l.drop B = X := hX.symm
            rw [hX2] at hO3 hT6 hb6 ⊢
            have hXl : X.length ≤ 1000001 := by rw [← hX2]; have := HM.out.2; simp; omega
            have HX := Lib.hid (show _ ∧ _ ∧ _ ∧ _ from ⟨hX, hO3, hT6, hC2⟩)
            clear hX hX2 hO3 hT6 hb6 hC2 hB3' hB3 hB2' hO2 HB1 HO1
            refine wpAnyH_one (i := 12) (by kernel_rfl) rfl (by kernel_rfl) (fun K' hK' => ?_)
            go_simp
            refine hK' _ _ ⟨e0, e1, e2, e3⟩ ?_
            clear hK' K'
            refine wpAnyH_done (by kernel_rfl) ?_ _
            refine NoPanic.normal ?_
            go_wp2_with fail
            refine (rcheck_any a6 X.length c6 g6 0 X W3 HX.out.2.2.1 (by omega)).mono ?_
            rintro e W4 ⟨rfl, hb4⟩
            have hC3 := below_after HX.out.2.2.2 hb4 HX.out.2.2.2.size
            have hO4 := (HX.out.2.1.below hb4 (Nat.le_refl _)).mono (B' := w.heap.size) hWs
            clear hb4
            by_cases hmap : Map X
            · rw [chk_yes hmap]
              go_wp2
              exact bodyPost_ret (v := .tuple #[.slice a6 X.length c6, .int .i64 0]) (by simp [results, Try.results18, go_sem]) rfl ⟨⟨B, B, HPQ.out.2.2.2.2, .inr ⟨by rw [← HX.out.1]; exact hmap, _, rfl, by rw [← HX.out.1]; exact hO4⟩⟩, hC3⟩
            · rw [chk_no hmap]
              go_wp2
              exact bodyPost_ret (v := .tuple #[.slice none 0 0, .int .i64 90]) (by simp [results, Try.results18, go_sem]) rfl ⟨⟨B, B, HPQ.out.2.2.2.2, .inl ⟨by rw [← HX.out.1]; exact hmap, rfl⟩⟩, hC3⟩
        · go_simp
          refine hK' _ _ ⟨cell_alloc_keep d0 _, cell_alloc_keep d1 _, cell_alloc_keep d2 _, cell_alloc_keep d3 _⟩ ?_
          clear hK' K'
          have hBW0 : Below W1.heap.size W1 (W1.drew.alloc (.cells #[.int .i64 t0, .int .i64 t1, .int .i64 t2, .bool t3] 30)) := (Below.refl _ _).drew.alloc (by show W1.heap.size ≤ W1.heap.size; omega) _
          refine wpAnyH_one (i := 0) (by kernel_rfl) rfl (by kernel_rfl) (fun K' hK' => ?_)
          go_simp
          refine hK' _ _ ⟨cell_alloc_keep (cell_alloc_keep d0 _) _, cell_alloc_keep (cell_alloc_keep d1 _) _, cell_alloc_keep (cell_alloc_keep d2 _) _, cell_alloc_keep (cell_alloc_keep d3 _) _⟩ ?_
          clear hK' K'
          have hBW6 : Below W1.heap.size W1 ((W1.drew.alloc (.cells #[.int .i64 t0, .int .i64 t1, .int .i64 t2, .bool t3] 30)).alloc (.cells #[] 30)) := hBW0.alloc hBW0.size _
          refine wpAnyH_one (i := 4) (by kernel_rfl) rfl (by kernel_rfl) (fun K' hK' => ?_)
          have hE0 := TsO.empty (W1.drew.alloc (.cells #[.int .i64 t0, .int .i64 t1, .int .i64 t2, .bool t3] 30))
          rw [World.size_alloc] at hE0
          change TsO _ (W1.heap.size + 1) (.slice (some ⟨W1.heap.size + 1, 0, none⟩) 0 0) [] at hE0
          refine wp_append_ts (.tmp 46) (.tmp 49) (by rfl) (W1.heap.size + 1) _ [] (by rfl) hE0 a _ _ B cap (l.take B) (by rfl) (HPQ.out.2.2.1.grown hBW6) hnc (by simp; omega) (by simp) ?_
          intro v4 W4 hO4 hB4 _
          rw [List.nil_append] at hO4
          have gb0 := blk_below (blk_alloc (blk_new W1.drew (.cells #[.int .i64 t0, .int .i64 t1, .int .i64 t2, .bool t3] 30)) (.cells #[] 30)) hB4 (by show W1.heap.size < W1.heap.size + 1; omega)
          replace hO4 := hO4.mono (B' := W1.heap.size) (by omega)
          have hB4' := hBW6.trans (hB4.mono (by omega))
          have e0 := (hB4'.cell (p := ⟨w.heap.size, 0, none⟩) hbw).trans d0
          have e1 := (hB4'.cell (p := ⟨w.heap.size, 1, none⟩) hbw).trans d1
          have e2 := (hB4'.cell (p := ⟨w.heap.size, 2, none⟩) hbw).trans d2
          have e3 := (hB4'.cell (p := ⟨w.heap.size, 3, none⟩) hbw).trans d3
          refine hK' _ _ ⟨e0, e1, e2, e3⟩ ?_
          clear hK' K'
          have HB1 := Lib.hid hB4'
          have hs1 := HB1.out.size
          have gb := gb0
          have HO1 := Lib.hid hO4
          refine wpAnyH_one (i := 7) (by kernel_rfl) rfl (by kernel_rfl) (fun K' hK' => ?_)
          refine wp_append_t (.tmp 50) (.tmp 52) (by rfl) W1.heap.size v4 _ (by rfl) HO1.out _ (t0, t1, t2, t3) (by rfl) _ _ gb (by have := HM.out.2; simp; omega) hs1 ?_
          intro v2 W2 hO2 hB2 _
          have hB2' := HB1.out.trans hB2
          have e0 := (hB2'.cell (p := ⟨w.heap.size, 0, none⟩) hbw).trans d0
          have e1 := (hB2'.cell (p := ⟨w.heap.size, 1, none⟩) hbw).trans d1
          have e2 := (hB2'.cell (p := ⟨w.heap.size, 2, none⟩) hbw).trans d2
          have e3 := (hB2'.cell (p := ⟨w.heap.size, 3, none⟩) hbw).trans d3
          refine hK' _ _ ⟨e0, e1, e2, e3⟩ ?_
          clear hK' K' hB2
          refine wpAnyH_one (i := 11) (by kernel_rfl) rfl (by kernel_rfl) (fun K' hK' => ?_)
          refine wp_append_ts (.tmp 53) (.tmp 56) (by rfl) W1.heap.size v2 _ (by rfl) hO2 a3 b3 o3 (len - B) (cap - B) (l.drop B) (by rfl) (HPQ.out.1.grown hB2') HPQ.out.2.1 (by have := HM.out.2; simp; omega) hB2'.size ?_
          intro v3 W3 hO3 hB3 _
          have hB3' := hB2'.trans hB3
          have e0 := (hB3'.cell (p := ⟨w.heap.size, 0, none⟩) hbw).trans d0
          have e1 := (hB3'.cell (p := ⟨w.heap.size, 1, none⟩) hbw).trans d1
          have e2 := (hB3'.cell (p := ⟨w.heap.size, 2, none⟩) hbw).trans d2
          have e3 := (hB3'.cell (p := ⟨w.heap.size, 3, none⟩) hbw).trans d3
          refine hK' _ _ ⟨e0, e1, e2, e3⟩ ?_
          clear hK' K'
          have hC2 := HPQ.out.2.2.2.1.trans (hB3'.mono hWs)
          obtain ⟨a6, g6, c6, rfl, hT6, hb6, _, _, _⟩ := hO3.ts
          obtain ⟨X, hX⟩ : ∃ X, X = insX l (t0, t1, t2, t3) B B := ⟨_, rfl⟩
          have hX2 : l.take B ++ [(t0, t1, t2, t3)] ++ l.drop B = X := hX.symm
          rw [hX2] at hO3 hT6 hb6 ⊢
          have hXl : X.length ≤ 1000001 := by rw [← hX2]; have := HM.out.2; simp; omega
          have HX := Lib.hid (show _ ∧ _ ∧ _ ∧ _ from ⟨hX, hO3, hT6, hC2⟩)
          clear hX hX2 hO3 hT6 hb6 hC2 hB3' hB3 hB2' hO2 HB1 HO1
          refine wpAnyH_one (i := 12) (by kernel_rfl) rfl (by kernel_rfl) (fun K' hK' => ?_)
          go_simp
          refine hK' _ _ ⟨e0, e1, e2, e3⟩ ?_
          clear hK' K'
          refine wpAnyH_done (by kernel_rfl) ?_ _
          refine NoPanic.normal ?_
          go_wp2_with fail
          refine (rcheck_any a6 X.length c6 g6 0 X W3 HX.out.2.2.1 (by omega)).mono ?_
          rintro e W4 ⟨rfl, hb4⟩
          have hC3 := below_after HX.out.2.2.2 hb4 HX.out.2.2.2.size
          have hO4 := (HX.out.2.1.below hb4 (Nat.le_refl _)).mono (B' := w.heap.size) hWs
          clear hb4
          by_cases hmap : Map X
          · rw [chk_yes hmap]
            go_wp2
            exact bodyPost_ret (v := .tuple #[.slice a6 X.length c6, .int .i64 0]) (by simp [results, Try.results18, go_sem]) rfl ⟨⟨B, B, HPQ.out.2.2.2.2, .inr ⟨by rw [← HX.out.1]; exact hmap, _, rfl, by rw [← HX.out.1]; exact hO4⟩⟩, hC3⟩
          · rw [chk_no hmap]
            go_wp2
            exact bodyPost_ret (v := .tuple #[.slice none 0 0, .int .i64 90]) (by simp [results, Try.results18, go_sem]) rfl ⟨⟨B, B, HPQ.out.2.2.2.2, .inl ⟨by rw [← HX.out.1]; exact hmap, rfl⟩⟩, hC3⟩
      · have hIns : InsAt l t0 s (s + 1) := .inl ⟨by rw [HM.out.2]; exact hsl, rfl, hst, fun j hj => hsne j (Nat.zero_le _) hj⟩
        have hge : decide ((0 : Int) ≤ (s : Int)) = true := by simp
        clear hsne hst hB1 hB2
        go_wp2_with (at_builtin; refine wpList_append_ts rfl (.tmp 37) (.tmp 38) rfl wr.heap.size _ [] rfl (TsO.empty _) _ b off _ _ l rfl ((HM.out.1.grown hB).grown (by go_grown)) hnc (by simp; omega) (by simp) ?_; intro v1 W1 hO1 hb1 hG1; clear hG1; simp only [List.nil_append] at hO1; have hBW : Below wr.heap.size wr W1 := ((Below.refl _ _).alloc (Nat.le_refl _) _).trans hb1; clear hb1; obtain ⟨g, cc, rfl, hgB⟩ := hO1.inBlock HM.out.2 (by omega); have hbW := blk_below Z0.out hBW (Array.getElem?_eq_some_iff.1 Z0.out).1; have d0 := blk_cell hbW 0; have d1 := blk_cell hbW 1; have d2 := blk_cell hbW 2; have d3 := blk_cell hbW 3; simp at d0 d1 d2 d3; obtain ⟨e0, e1, e2, e3⟩ := encL_get l s (by rw [HM.out.2]; exact hsl); have c0 := (hO1.cellAt HM.out.2 (s * 4) (by omega)).trans e0; have c1 := (hO1.cellAt HM.out.2 (s * 4 + 1) (by omega)).trans e1; have c2 := (hO1.cellAt HM.out.2 (s * 4 + 2) (by omega)).trans e2; have c3 := (hO1.cellAt HM.out.2 (s * 4 + 3) (by omega)).trans e3; have f0 := hO1.freeAt HM.out.2 (s * 4); have f1 := hO1.freeAt HM.out.2 (s * 4 + 1); have f2 := hO1.freeAt HM.out.2 (s * 4 + 2); have f3 := hO1.freeAt HM.out.2 (s * 4 + 3); clear e0 e1 e2 e3; have HO1 := Lib.hid hO1; clear hO1 hbW; have hBB := below_after hB hBW hB.size; have HBB := Lib.hid hBB; clear hBB hBW)
        have hO2 := HO1.out.stored HM.out.2 s hsl (t0, t1, t2, t3)
        rw [set_mid l s _ (by rw [HM.out.2]; exact hsl)] at hO2
        change TsO _ _ _ (insX l (t0, t1, t2, t3) s (s + 1)) at hO2
        have hB2 := (((HBB.out.setCell (p := ⟨g, s * 4, none⟩) (by have := hB.size; simp; omega) (.int .i64 t0)).setCell (p := ⟨g, s * 4 + 1, none⟩) (by have := hB.size; simp; omega) (.int .i64 t1)).setCell (p := ⟨g, s * 4 + 2, none⟩) (by have := hB.size; simp; omega) (.int .i64 t2)).setCell (p := ⟨g, s * 4 + 3, none⟩) (by have := hB.size; simp; omega) (.bool t3)
        obtain ⟨a3, b3, cap3, hv3, hM3, hb3, hnc3, hl3, hc3⟩ := hO2.ts
        have hlen3 : (insX l (t0, t1, t2, t3) s (s + 1)).length = len := by simp [insX, HM.out.2]; omega
        rw [hlen3] at hv3 hM3
        simp only [Value.slice.injEq, true_and] at hv3
        obtain ⟨rfl, rfl⟩ := hv3
        refine (rcheck_any _ len cc b3 0 _ _ hM3 (by omega)).mono ?_
        rintro e W2 ⟨rfl, hb2⟩
        have hO3 := (hO2.below hb2 (Nat.le_refl _)).mono (B' := w.heap.size) hB.size
        replace hB2 := below_after hB2 hb2 hB2.size
        by_cases hmap : Map (insX l (t0, t1, t2, t3) s (s + 1))
        · rw [chk_yes hmap]
          go_wp2
          exact bodyPost_ret (by simp [results, Try.results18, go_sem]) rfl ⟨⟨s, s + 1, hIns, .inr ⟨hmap, _, rfl, hO3⟩⟩, hB2⟩
        · rw [chk_no hmap]
          go_wp2
          exact bodyPost_ret (by simp [results, Try.results18, go_sem]) rfl ⟨⟨s, s + 1, hIns, .inl ⟨hmap, rfl⟩⟩, hB2⟩
end Go.Proofs.Ytcgndcapdodhlaa
