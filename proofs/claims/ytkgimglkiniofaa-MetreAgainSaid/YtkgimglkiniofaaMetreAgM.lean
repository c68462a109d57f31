/- A further change that says what holds there already (layer 10). -/
import Derived.Test.YtkgimglkiniofaaMetreBarsM
namespace Go.Proofs.Ytkgimglkiniofaa

/-- m is l with the change (bar, ..) behind the change k, which says the same. -/
structure Ins (l m : List Mt) (k : Nat) (bar : Int) : Prop where
  len : m.length = l.length + 1
  lt : k < l.length
  lo : ∀ j, j ≤ k → nthM m j = nthM l j
  at' : nthM m (k + 1) = (bar, (nthM l k).2.1, (nthM l k).2.2)
  hi : ∀ j, k < j → nthM m (j + 1) = nthM l j
  b1 : (nthM l k).1 < bar
  b2 : bar < endOf l k
  b3 : bar ≤ 1048576
theorem Ins.changes {l m : List Mt} {k : Nat} {bar : Int} (h : Ins l m k bar) (hc : Changes l) (h64 : l.length < 64) : Changes m := by
  refine ⟨by rw [h.len]; omega, by rw [h.len]; omega, by rw [h.lo 0 (Nat.zero_le _)]; exact hc.2.2.1, fun i hi => ?_⟩
  rw [h.len] at hi
  by_cases c1 : i ≤ k
  · rw [h.lo i c1]
    refine ⟨(hc.2.2.2 i (by have := h.lt; omega)).1, fun h0 => ?_⟩
    rw [h.lo (i - 1) (by omega)]
    exact (hc.2.2.2 i (by have := h.lt; omega)).2 h0
  · by_cases c2 : i = k + 1
    · subst c2
      obtain ⟨m1, m2, m3, m4, m5, m6⟩ := (hc.2.2.2 k h.lt).1
      have b1 := h.b1; have b3 := h.b3
      rw [h.at']
      refine ⟨⟨by show 0 ≤ bar; omega, b3, m3, m4, m5, m6⟩, fun _ => ?_⟩
      rw [Nat.add_sub_cancel, h.lo k (Nat.le_refl _)]
      exact b1
    · obtain ⟨j, rfl⟩ : ∃ j, i = j + 1 := ⟨i - 1, by omega⟩
      have hj : k < j := by omega
      rw [h.hi j hj]
      refine ⟨(hc.2.2.2 j (by omega)).1, fun _ => ?_⟩
      rw [Nat.add_sub_cancel]
      by_cases c3 : j = k + 1
      · subst c3
        rw [h.at']
        have := h.b2
        unfold endOf at this
        rw [if_pos (by omega)] at this
        exact this
      · obtain ⟨i, rfl⟩ : ∃ i, j = i + 1 := ⟨j - 1, by omega⟩
        rw [h.hi i (by omega)]
        exact (hc.2.2.2 (i + 1) (by omega)).2 (by omega)
theorem Ins.end_lo {l m : List Mt} {k : Nat} {bar : Int} (h : Ins l m k bar) {j : Nat} (hj : j < k) : endOf m j = endOf l j := by
  have := h.lt
  unfold endOf
  rw [h.len, if_pos (by omega), if_pos (by omega), h.lo (j + 1) (by omega)]
theorem Ins.end_k {l m : List Mt} {k : Nat} {bar : Int} (h : Ins l m k bar) : endOf m k = bar := by
  have := h.lt
  unfold endOf
  rw [h.len, if_pos (by omega), h.at']
theorem Ins.end_hi {l m : List Mt} {k : Nat} {bar : Int} (h : Ins l m k bar) {j : Nat} (hj : k ≤ j) : endOf m (j + 1) = endOf l j := by
  unfold endOf
  rw [h.len]
  by_cases c : j + 1 < l.length
  · rw [if_pos (by omega), if_pos c, h.hi (j + 1) (by omega)]
  · rw [if_neg (by omega), if_neg c]
theorem Ins.len_lo {l m : List Mt} {k : Nat} {bar : Int} (h : Ins l m k bar) {j : Nat} (hj : j ≤ k) : lenOf m j = lenOf l j := by
  unfold lenOf; rw [h.lo j hj]
theorem Ins.len_at {l m : List Mt} {k : Nat} {bar : Int} (h : Ins l m k bar) : lenOf m (k + 1) = lenOf l k := by
  unfold lenOf; rw [h.at']
theorem Ins.len_hi {l m : List Mt} {k : Nat} {bar : Int} (h : Ins l m k bar) {j : Nat} (hj : k < j) : lenOf m (j + 1) = lenOf l j := by
  unfold lenOf; rw [h.hi j hj]
theorem Ins.tick_lo {l m : List Mt} {k : Nat} {bar : Int} (h : Ins l m k bar) : ∀ j, j ≤ k → tickOf m j = tickOf l j := by
  intro j
  induction j with
  | zero => intro _; rfl
  | succ j ih =>
    intro hj
    show tickOf m j + (endOf m j - (nthM m j).1) * lenOf m j = tickOf l j + (endOf l j - (nthM l j).1) * lenOf l j
    rw [ih (by omega), h.end_lo (by omega), h.lo j (by omega), h.len_lo (by omega)]
theorem Ins.tick_at {l m : List Mt} {k : Nat} {bar : Int} (h : Ins l m k bar) : tickOf m (k + 1) = tickOf l k + (bar - (nthM l k).1) * lenOf l k := by
  show tickOf m k + (endOf m k - (nthM m k).1) * lenOf m k = _
  rw [h.tick_lo k (Nat.le_refl _), h.end_k, h.lo k (Nat.le_refl _), h.len_lo (Nat.le_refl _)]
theorem Ins.tick_hi {l m : List Mt} {k : Nat} {bar : Int} (h : Ins l m k bar) : ∀ j, k < j → tickOf m (j + 1) = tickOf l j := by
  intro j
  induction j with
  | zero => intro hj; omega
  | succ j ih =>
    intro hj
    show tickOf m (j + 1) + (endOf m (j + 1) - (nthM m (j + 1)).1) * lenOf m (j + 1) = tickOf l j + (endOf l j - (nthM l j).1) * lenOf l j
    by_cases c : j = k
    · subst c
      rw [h.tick_at, h.end_hi (Nat.le_refl _), h.at', h.len_at]
      show tickOf l j + (bar - (nthM l j).1) * lenOf l j + (endOf l j - bar) * lenOf l j = tickOf l j + (endOf l j - (nthM l j).1) * lenOf l j
      rw [Int.add_assoc, ← Int.add_mul]
      congr 2
      omega
    · rw [ih (by omega), h.end_hi (by omega), h.hi j (by omega), h.len_hi (by omega)]
/-- A place is at the same tick. -/
theorem Ins.bar {l m : List Mt} {k : Nat} {bar : Int} (h : Ins l m k bar) {j : Nat} {B b o : Int} (hb : Bar l j B b o) : ∃ j', Bar m j' B b o ∧ tickAt m j' B b o = tickAt l j B b o := by
  obtain ⟨hj, c1, c2, c3, c4, c5, c6⟩ := hb
  have hlen := h.len
  by_cases q1 : j < k
  · refine ⟨j, ⟨by omega, by rw [h.lo j (by omega)]; exact c1, by rw [h.end_lo q1]; exact c2, c3, by rw [h.lo j (by omega)]; exact c4, c5, by rw [h.lo j (by omega)]; exact c6⟩, ?_⟩
    unfold tickAt
    rw [h.tick_lo j (by omega), h.lo j (by omega), h.len_lo (by omega)]
  by_cases q2 : j = k
  · subst q2
    by_cases q3 : B < bar
    · refine ⟨j, ⟨by omega, by rw [h.lo j (by omega)]; exact c1, by rw [h.end_k]; exact q3, c3, by rw [h.lo j (by omega)]; exact c4, c5, by rw [h.lo j (by omega)]; exact c6⟩, ?_⟩
      unfold tickAt
      rw [h.tick_lo j (by omega), h.lo j (by omega), h.len_lo (by omega)]
    · refine ⟨j + 1, ⟨by omega, by rw [h.at']; show bar ≤ B; omega, by rw [h.end_hi (by omega)]; exact c2, c3, by rw [h.at']; exact c4, c5, by rw [h.at']; exact c6⟩, ?_⟩
      unfold tickAt
      rw [h.tick_at, h.at', h.len_at]
      show tickOf l j + (bar - (nthM l j).1) * lenOf l j + (B - bar) * lenOf l j + b * (nthM l j).2.2 + o = _
      have e : (bar - (nthM l j).1) * lenOf l j + (B - bar) * lenOf l j = (B - (nthM l j).1) * lenOf l j := by
        rw [← Int.add_mul]; congr 1; omega
      omega
  · have q4 : k < j := by omega
    refine ⟨j + 1, ⟨by omega, by rw [h.hi j q4]; exact c1, by rw [h.end_hi (by omega)]; exact c2, c3, by rw [h.hi j q4]; exact c4, c5, by rw [h.hi j q4]; exact c6⟩, ?_⟩
    unfold tickAt
    rw [h.tick_hi j q4, h.hi j q4, h.len_hi q4]
theorem spot_at {l : List Mt} (h : Changes l) {j : Nat} {B b o : Int} (hb : Bar l j B b o) : Spot l (tickAt l j B b o) j B b o := by
  obtain ⟨t1, t2, t3, t4, t5, t6⟩ := tickAt_in h hb
  refine ⟨hb.1, t1, t2, ?_, ?_, ?_⟩
  · rw [t3, t5]; omega
  · rw [t3, t6]
  · exact t4.symm
theorem Ins.spot {l m : List Mt} {k : Nat} {bar : Int} (h : Ins l m k bar) (hc : Changes l) (hm : Changes m) {j : Nat} {tick B b o : Int} (hs : Spot l tick j B b o) : ∃ j', Spot m tick j' B b o := by
  obtain ⟨hb, e⟩ := spot_bar hc hs
  obtain ⟨j', hb', e'⟩ := h.bar hb
  have := spot_at hm hb'
  rw [e', e] at this
  exact ⟨j', this⟩
theorem spot_one {l : List Mt} {tick B b o U v w : Int} {k1 k2 : Nat} (hc : Changes l) (h1 : Spot l tick k1 B b o) (h2 : Spot l tick k2 U v w) : B = U ∧ b = v ∧ o = w := by
  obtain ⟨a0, a1, a2, a3, a4, a5⟩ := h1
  obtain ⟨b0, b1, b2, b3, b4, b5⟩ := h2
  have x1 := spot_k hc a1 b2 a0 (Int.le_refl _)
  have x2 := spot_k hc b1 a2 b0 (Int.le_refl _)
  obtain rfl : k1 = k2 := by omega
  exact ⟨a3.trans b3.symm, a4.trans b4.symm, a5.trans b5.symm⟩
theorem Ins.tick_end {l m : List Mt} {k : Nat} {bar : Int} (h : Ins l m k bar) : tickOf m m.length = tickOf l l.length := by
  rw [h.len]; exact h.tick_hi _ h.lt
/-- Place answers the same. -/
theorem Ins.place {l m : List Mt} {k : Nat} {bar : Int} (h : Ins l m k bar) (hc : Changes l) (hm : Changes m) {tick B b o r U v w s : Int} (h1 : PlaceRes l tick B b o r) (h2 : PlaceRes m tick U v w s) : B = U ∧ b = v ∧ o = w ∧ r = s := by
  by_cases ht : 0 ≤ tick ∧ tick ≤ 16777216
  case neg =>
    obtain ⟨e1, e2, e3, e4⟩ := place_arg hc ht h1
    obtain ⟨f1, f2, f3, f4⟩ := place_arg hm ht h2
    exact ⟨e1.trans f1.symm, e2.trans f2.symm, e3.trans f3.symm, e4.trans f4.symm⟩
  rcases tick_in_or (l := l) ht.1 with ⟨j, B', b', o', hs⟩ | hp
  · obtain ⟨r0, hS⟩ := place_of hc ht.1 ht.2 hs.1 hs.2.1 hs.2.2.1 h1
    obtain ⟨j', hS'⟩ := h.spot hc hm hS
    obtain ⟨s0, hS2⟩ := place_of hm ht.1 ht.2 hS'.1 hS'.2.1 hS'.2.2.1 h2
    obtain ⟨e1, e2, e3⟩ := spot_one hm hS' hS2
    exact ⟨e1, e2, e3, r0.trans s0.symm⟩
  · obtain ⟨e1, e2, e3, e4⟩ := place_past hc ht hp h1
    obtain ⟨f1, f2, f3, f4⟩ := place_past hm ht (by rw [h.tick_end]; exact hp) h2
    exact ⟨e1.trans f1.symm, e2.trans f2.symm, e3.trans f3.symm, e4.trans f4.symm⟩
theorem Ins.bg' {l m : List Mt} {k : Nat} {bar : Int} (h : Ins l m k bar) (hc : Changes l) (hm : Changes m) {B : Int} (h0 : 0 ≤ B) (h1 : B ≤ 1048576) : bg m B = bg l B := by
  obtain ⟨j, hj, c1, c2⟩ := bar_in hc h0 h1
  obtain ⟨_, _, m3, _, m5, _⟩ := (hc.2.2.2 j hj).1
  obtain ⟨j', hb', e'⟩ := h.bar (j := j) (B := B) (b := 0) (o := 0) ⟨hj, c1, c2, by omega, by omega, by omega, by omega⟩
  show beginK m B m.length = beginK l B l.length
  rw [begin_is hc hj c1 c2, begin_is hm hb'.1 hb'.2.1 hb'.2.2.1]
  exact e'
theorem Ins.outs {l m : List Mt} {k : Nat} {bar : Int} (h : Ins l m k bar) (hc : Changes l) (hm : Changes m) (fr to : Int) : allF m fr to (List.range m.length) = allF l fr to (List.range l.length) := by
  rw [allF_outK hc, allF_outK hm]
  have e : ((List.range (min 1048577 1048577)).map fun (i : Nat) => bg m (i : Int)) = (List.range (min 1048577 1048577)).map fun (i : Nat) => bg l (i : Int) :=
    List.map_congr_left fun i hi => by
      have := List.mem_range.1 hi
      exact h.bg' hc hm (by omega) (by omega)
  unfold outK
  rw [e]
/-- Bars answers the same. -/
theorem Ins.bars {l m : List Mt} {k : Nat} {bar : Int} (h : Ins l m k bar) (hc : Changes l) (hm : Changes m) {fr to r s : Int} {A C : List Int} (h1 : BarsRes l fr to r A) (h2 : BarsRes m fr to s C) : r = s ∧ A = C := by
  have eE : bIsE m fr to = bIsE l fr to := by unfold bIsE; rw [h.outs hc hm]
  have eA : bIs m fr to = bIs l fr to := by unfold bIs; rw [h.outs hc hm]
  rcases h1 with ⟨n1, _⟩ | ⟨_, p1, r1, a1⟩ | ⟨_, p1, r1, a1⟩
  · exact absurd hc n1
  · rcases h2 with ⟨n2, _⟩ | ⟨_, p2, r2, a2⟩ | ⟨_, p2, r2, a2⟩
    · exact absurd hm n2
    · exact ⟨r1.trans r2.symm, a1.trans a2.symm⟩
    · exact absurd p2 p1
  · rcases h2 with ⟨n2, _⟩ | ⟨_, p2, r2, a2⟩ | ⟨_, p2, r2, a2⟩
    · exact absurd hm n2
    · exact absurd p1 p2
    · exact ⟨by rw [r1, r2, eE], by rw [a1, a2, eA]⟩
end Go.Proofs.Ytkgimglkiniofaa
