/- What the functions of network do to links, by what the packets hold (layer 6). -/
import Derived.Test.YthgbkdaimnejeaaNetRCut
import Derived.Test.YthgbkdaimnejeaaNetRRep
namespace Go.Proofs.Ythgbkdaimnejeaa
open Go.ChangeShapes Go.WideShapes Go.ChangeAt Go.RowKit Go.Sort Go.Shelf

abbrev Sl := Option Addr × Nat × Nat
abbrev vN (x : Sl × Sl) : Value := .agg #[.slice x.1.1 x.1.2.1 x.1.2.2, .slice x.2.1 x.2.2.1 x.2.2.2]
abbrev zN : Sl × Sl := ((none, 0, 0), (none, 0, 0))
abbrev zK : Kt := (0, 0, none, 0, 0)
def zP : Pk := (0, 0, ByteArray.empty)
/-- Links, by what they hold. -/
structure NetV (w : World) (x : Sl × Sl) (L : List Pk) (A : List Qt) : Prop where
  ex : ∃ qb qo Q D pb po, Ks w x.1.1 x.1.2.1 qb qo Q ∧ Dats w Q D ∧ pkL Q D = L ∧ Qs w x.2.1 x.2.2.1 pb po A
  q1 : x.1.2.1 ≤ x.1.2.2
  q2 : x.1.2.2 ≤ 9223372036854775807
  q3 : x.1.1 = none → x.1.2.2 = 0
  p2 : x.2.2.1 ≤ 9223372036854775807
theorem NetV.grown {w w' : World} {x : Sl × Sl} {L : List Pk} {A : List Qt} (h : NetV w x L A) (hb : Below w.heap.size w w') : NetV w' x L A := by
  obtain ⟨⟨qb, qo, Q, D, pb, po, h1, h2, h3, h4⟩, h5, h6, h7, h8⟩ := h
  exact ⟨⟨qb, qo, Q, D, pb, po, h1.grown hb, h2.grown hb, h3, h4.grown hb⟩, h5, h6, h7, h8⟩
theorem NetV.lenQ {w : World} {x : Sl × Sl} {L : List Pk} {A : List Qt} (h : NetV w x L A) : x.1.2.1 = L.length := by
  obtain ⟨⟨qb, qo, Q, D, pb, po, h1, h2, h3, h4⟩, _⟩ := h
  rw [← h3, pkL_len h2.len, h1.1]
theorem NetV.lenP {w : World} {x : Sl × Sl} {L : List Pk} {A : List Qt} (h : NetV w x L A) : x.2.2.1 = A.length := by
  obtain ⟨⟨qb, qo, Q, D, pb, po, h1, h2, h3, h4⟩, _⟩ := h
  exact h4.1.symm
theorem NetV.zero (w : World) : NetV w zN [] [] := ⟨⟨0, 0, [], [], 0, 0, Ks.zero w _, ⟨rfl, fun i hi => by simp at hi⟩, rfl, Qs.zero w _⟩, Nat.le_refl _, by simp, fun _ => rfl, by simp⟩
/-- A packet, by what it holds. -/
def PkV (w : World) (k : Kt) (m : Pk) : Prop := ∃ S, DatR w k.2.2 S ∧ pk k S = m
theorem PkV.grown {w w' : World} {k : Kt} {m : Pk} (h : PkV w k m) (hb : Below w.heap.size w w') : PkV w' k m := by
  obtain ⟨S, h1, h2⟩ := h
  exact ⟨S, h1.grown hb, h2⟩
theorem PkV.zero (w : World) : PkV w zK zP := ⟨ByteArray.empty, ⟨0, 0, [], ⟨rfl, fun h => (by cases h), fun h => (by cases h), fun i hi => (by cases hi)⟩, rfl⟩, rfl⟩
def okS (m : Pk) : Prop := prt m.1 m.2.1 ∧ m.2.2.size ≤ 1048576
def NOk (L : List Pk) (A : List Qt) : Prop := L.length ≤ 4096 ∧ (∀ m ∈ L, okS m) ∧ okAn A A.length
theorem datR_size {w : World} {s : Sl} {S : ByteArray} (h : DatR w s S) : S.size = s.2.1 := by
  obtain ⟨b, off, l, h1, rfl⟩ := h
  rw [strOfNums_size, h1.len]
theorem okK_S {w : World} {k : Kt} {S : ByteArray} (h : DatR w k.2.2 S) : okK k ↔ okS (pk k S) := by
  have := datR_size h
  unfold okK okS pk
  rw [this]
theorem okK_P {w : World} {k : Kt} {m : Pk} (h : PkV w k m) : okK k ↔ okS m := by
  obtain ⟨S, h1, rfl⟩ := h
  exact okK_S h1
theorem netOk_iff {w : World} {Q : List Kt} {D : List ByteArray} {A : List Qt} (h : Dats w Q D) : NetOk Q A ↔ NOk (pkL Q D) A := by
  unfold NetOk NOk okQn
  rw [pkL_len h.len]
  have : (∀ i, i < Q.length → okK (nthK Q i)) ↔ ∀ m ∈ pkL Q D, okS m := by
    constructor
    · intro g m hm
      obtain ⟨i, hi, rfl⟩ := List.mem_iff_getElem.1 hm
      have hi' : i < Q.length := by rwa [pkL_len h.len] at hi
      have e := pkL_at h.len hi'
      rw [List.getElem?_eq_getElem hi] at e
      rw [Option.some.inj e]
      exact (okK_S (h.dat i hi')).1 (g i hi')
    · intro g i hi
      exact (okK_S (h.dat i hi)).2 (g _ (List.mem_of_getElem? (pkL_at h.len hi)))
  rw [this]
theorem pkL_app {Q Q' : List Kt} {D D' : List ByteArray} (h : D.length = Q.length) : pkL (Q ++ Q') (D ++ D') = pkL Q D ++ pkL Q' D' := by
  unfold pkL; rw [List.zipWith_append h.symm]
theorem pkL_del (Q : List Kt) (D : List ByteArray) (h : D.length = Q.length) (k : Nat) : pkL (Q.take k ++ Q.drop (k + 1)) (D.take k ++ D.drop (k + 1)) = (pkL Q D).eraseIdx k := by
  rw [pkL_app (by simp [h]), List.eraseIdx_eq_take_drop_succ]
  unfold pkL
  rw [List.take_zipWith, List.drop_zipWith]
theorem Dats.app {w : World} {Q Q' : List Kt} {D D' : List ByteArray} (h : Dats w Q D) (h' : Dats w Q' D') : Dats w (Q ++ Q') (D ++ D') := by
  refine ⟨by rw [List.length_append, List.length_append, h.len, h'.len], fun i hi => ?_⟩
  rw [List.length_append] at hi
  unfold nthK nthD
  by_cases hq : i < Q.length
  · have := h.dat i hq
    unfold nthK nthD at this
    rw [List.getD_eq_getElem?_getD, List.getD_eq_getElem?_getD, List.getElem?_append_left hq, List.getElem?_append_left (by rw [h.len]; exact hq), ← List.getD_eq_getElem?_getD, ← List.getD_eq_getElem?_getD]; exact this
  · have := h'.dat (i - Q.length) (by omega)
    unfold nthK nthD at this
    rw [List.getD_eq_getElem?_getD, List.getD_eq_getElem?_getD, List.getElem?_append_right (by omega), List.getElem?_append_right (by rw [h.len]; omega), h.len, ← List.getD_eq_getElem?_getD, ← List.getD_eq_getElem?_getD]; exact this
theorem Dats.one {w : World} {k : Kt} {S : ByteArray} (h : DatR w k.2.2 S) : Dats w [k] [S] := ⟨rfl, fun i hi => by
  obtain rfl : i = 0 := by simpa using hi
  exact h⟩
theorem Dats.tk {w : World} {Q : List Kt} {D : List ByteArray} (h : Dats w Q D) (k : Nat) : Dats w (Q.take k) (D.take k) := ⟨by simp [h.len], fun i hi => by
  rw [List.length_take] at hi
  have := h.dat i (by omega)
  unfold nthK nthD at *
  simp only [List.getD_eq_getElem?_getD, List.getElem?_take, show i < k by omega, if_true] at *
  exact this⟩
theorem Dats.dr {w : World} {Q : List Kt} {D : List ByteArray} (h : Dats w Q D) (k : Nat) : Dats w (Q.drop k) (D.drop k) := ⟨by simp [h.len], fun i hi => by
  rw [List.length_drop] at hi
  have := h.dat (k + i) (by omega)
  unfold nthK nthD at *
  simp only [List.getD_eq_getElem?_getD, List.getElem?_drop] at *
  exact this⟩
theorem getD_pk {Q : List Kt} {D : List ByteArray} (h : D.length = Q.length) {k : Nat} (hk : k < Q.length) : (pkL Q D).getD k zP = pk (nthK Q k) (nthD D k) := by
  rw [List.getD_eq_getElem?_getD, pkL_at h hk]; rfl

abbrev Rn := Int × List Pk × List Qt
/-- Links and a number, as an answer. -/
def ResN (r : Rn) (w : World) (e : Ending) (w' : World) : Prop := ∃ x : Sl × Sl, e = .returned (.tuple #[vN x, .int .i64 r.1]) ∧ NetV w' x r.2.1 r.2.2 ∧ Below w.heap.size w w'
theorem ResN.err {c : Int} {w w' : World} (hb : Below w.heap.size w w') : ResN (c, [], []) w (.returned (.tuple #[vN zN, .int .i64 c])) w' := ⟨zN, rfl, NetV.zero w', hb⟩
noncomputable def chkS (L : List Pk) (A : List Qt) : Int := by classical exact if NOk L A then 0 else 60
theorem chkS_yes {L : List Pk} {A : List Qt} (h : NOk L A) : chkS L A = 0 := if_pos h
theorem chkS_no {L : List Pk} {A : List Qt} (h : ¬ NOk L A) : chkS L A = 60 := if_neg h
noncomputable def askS (L : List Pk) (A : List Qt) (i : Int) : Int := by classical exact if NOk L A then (if 0 ≤ i ∧ i < (L.length : Int) then 0 else 1) else 60
noncomputable def sendS (L : List Pk) (A : List Qt) (m : Pk) : Rn := by classical exact if NOk L A ∧ okS m then (if L.length = 4096 then (2, [], []) else (0, L ++ [m], A)) else (60, [], [])
noncomputable def loseS (L : List Pk) (A : List Qt) (i : Int) : Rn := if askS L A i = 0 then (0, L.eraseIdx i.toNat, A) else (askS L A i, [], [])
noncomputable def repS (L : List Pk) (A : List Qt) (i : Int) : Rn := if askS L A i = 0 then (if L.length = 4096 then (2, [], []) else (0, L ++ [L.getD i.toNat zP], A)) else (askS L A i, [], [])
noncomputable def cutS (L : List Pk) (A : List Qt) (a b : Int) (on : Bool) : Rn := by classical exact if NOk L A then (if prt a b then (0, L, cutL A (prQ a b) on) else (1, [], [])) else (60, [], [])
noncomputable def delS (A : List Qt) (m : Pk) : Pk := by classical exact if prQ m.1 m.2.1 ∈ A then zP else m
/-- A packet, links and a number, as an answer. -/
def ResD (L : List Pk) (A : List Qt) (i : Int) (w : World) (e : Ending) (w' : World) : Prop := ∃ (k : Kt) (x : Sl × Sl), e = .returned (.tuple #[vK k, vN x, .int .i64 (askS L A i)]) ∧ PkV w' k (if askS L A i = 0 then delS A (L.getD i.toNat zP) else zP) ∧ NetV w' x (loseS L A i).2.1 (loseS L A i).2.2 ∧ Below w.heap.size w w'
theorem askC_S {w : World} {Q : List Kt} {D : List ByteArray} {A : List Qt} (h : Dats w Q D) (i : Int) : askC Q A i = askS (pkL Q D) A i := by
  by_cases hN : NetOk Q A
  · have hS := (netOk_iff h).1 hN
    by_cases g : 0 ≤ i ∧ i < (Q.length : Int)
    · rw [askC_ok hN g]; unfold askS; rw [if_pos hS, if_pos (by rw [pkL_len h.len]; exact g)]
    · rw [askC_arg hN g]; unfold askS; rw [if_pos hS, if_neg (by rw [pkL_len h.len]; exact g)]
  · rw [askC_no hN]; unfold askS; rw [if_neg fun g => hN ((netOk_iff h).2 g)]
theorem chkN_S {w : World} {Q : List Kt} {D : List ByteArray} {A : List Qt} (h : Dats w Q D) : chkN Q A = chkS (pkL Q D) A := by
  by_cases hN : NetOk Q A
  · rw [chkN_yes hN, chkS_yes ((netOk_iff h).1 hN)]
  · rw [chkN_no hN, chkS_no fun g => hN ((netOk_iff h).2 g)]
theorem NetV.of_ks {w : World} {a : Option Addr} {n c b off : Nat} {Q : List Kt} {D : List ByteArray} {p : Sl} {A : List Qt} {pb po : Nat} (h : Ks w a n b off Q) (hD : Dats w Q D) (hz : a = none → c = 0) (hc : n ≤ c) (hm : c ≤ 9223372036854775807) (hA : Qs w p.1 p.2.1 pb po A) (hp : p.2.1 ≤ 9223372036854775807) : NetV w ((a, n, c), p) (pkL Q D) A :=
  ⟨⟨b, off, Q, D, pb, po, h, hD, rfl, hA⟩, hc, hm, hz, hp⟩

theorem check_s (x : Sl × Sl) (L : List Pk) (A : List Qt) (w : World) (h : NetV w x L A) : Calls Try.prog 13 #[vN x] w fun e w' => e = .returned (.int .i64 (chkS L A)) ∧ Below w.heap.size w w' := by
  have q1 := h.q1; have q2 := h.q2; have p2 := h.p2
  obtain ⟨⟨qb, qo, Q, D, pb, po, h1, h2, rfl, h4⟩, _⟩ := h
  rw [← chkN_S h2]
  exact check_any _ _ _ qb qo Q _ _ _ pb po A w h1 h4 (by omega) p2
theorem rcheck_s (x : Sl × Sl) (L : List Pk) (A : List Qt) (w : World) (h : NetV w x L A) : Calls Try.prog 14 #[vN x] w fun e w' => e = .returned (.int .i64 (chkS L A)) ∧ Below w.heap.size w w' := by
  have q1 := h.q1; have q2 := h.q2; have p2 := h.p2
  obtain ⟨⟨qb, qo, Q, D, pb, po, h1, h2, rfl, h4⟩, _⟩ := h
  rw [← chkN_S h2]
  exact rcheck_any _ _ _ qb qo Q _ _ _ pb po A w h1 h4 (by omega) p2
theorem few_s (x : Sl × Sl) (L : List Pk) (A : List Qt) (w : World) (h : NetV w x L A) : Calls Try.prog 10 #[vN x] w fun e w' => e = .returned (.bool (decide (L.length ≤ 40 ∧ A.length ≤ 40))) ∧ Below w.heap.size w w' := by
  have q1 := h.q1; have q2 := h.q2; have p2 := h.p2
  obtain ⟨⟨qb, qo, Q, D, pb, po, h1, h2, rfl, h4⟩, _⟩ := h
  have := few_any x.1.1 x.1.2.1 x.1.2.2 qb qo Q x.2.1 x.2.2.1 x.2.2.2 pb po A w h1 h4 (by omega) p2
  rw [show decide (few Q A) = decide ((pkL Q D).length ≤ 40 ∧ A.length ≤ 40) from by rw [pkL_len h2.len]; rfl] at this
  exact this
theorem same_s (x y : Sl × Sl) (L L' : List Pk) (A A' : List Qt) (w : World) (h : NetV w x L A) (h' : NetV w y L' A') : Calls Try.prog 15 #[vN x, vN y] w fun e w' => e = .returned (.bool (decide (L = L' ∧ A = A'))) ∧ Below w.heap.size w w' := by
  have q1 := h.q1; have q2 := h.q2; have p2 := h.p2
  obtain ⟨⟨qb, qo, Q, D, pb, po, h1, h2, rfl, h4⟩, _⟩ := h
  obtain ⟨⟨rb, ro, Q', D', sb, so, h1', h2', rfl, h4'⟩, _⟩ := h'
  exact same_any _ _ _ qb qo Q _ _ _ pb po A _ _ _ rb ro Q' _ _ _ sb so A' D D' w h1 h4 h2 h1' h4' h2' (by omega) p2
theorem same_t (x y : Sl × Sl) (L : List Pk) (A : List Qt) (w : World) (h : NetV w x L A) (h' : NetV w y L A) : Calls Try.prog 15 #[vN x, vN y] w fun e w' => e = .returned (.bool true) ∧ Below w.heap.size w w' := by
  have := same_s x y L L A A w h h'
  rwa [decide_eq_true (show L = L ∧ A = A from ⟨rfl, rfl⟩)] at this
theorem samePk_s (k k' : Kt) (m m' : Pk) (w : World) (h : PkV w k m) (h' : PkV w k' m') : Calls Try.prog 22 #[vK k, vK k'] w fun e w' => e = .returned (.bool (decide (m = m'))) ∧ Below w.heap.size w w' := by
  obtain ⟨S, h1, rfl⟩ := h
  obtain ⟨S', h2, rfl⟩ := h'
  exact samePacket_any k k' S S' w h1 h2
theorem new_s (w : World) : Calls Try.prog 16 #[] w fun e w' => e = .returned (vN zN) ∧ NetV w' zN [] [] ∧ Below w.heap.size w w' := (new_any w).mono fun _ w' ⟨h1, h2⟩ => ⟨h1, NetV.zero w', h2⟩
theorem rnew_s (w : World) : Calls Try.prog 17 #[] w fun e w' => e = .returned (vN zN) ∧ NetV w' zN [] [] ∧ Below w.heap.size w w' := (rnew_any w).mono fun _ w' ⟨h1, h2⟩ => ⟨h1, NetV.zero w', h2⟩
theorem send_s (x : Sl × Sl) (L : List Pk) (A : List Qt) (k : Kt) (m : Pk) (w : World) (h : NetV w x L A) (hm : PkV w k m) : Calls Try.prog 11 #[vN x, vK k] w (ResN (sendS L A m) w) := by
  have q1 := h.q1; have q2 := h.q2; have q3 := h.q3; have p2 := h.p2
  have hok := okK_P hm
  obtain ⟨⟨qb, qo, Q, D, pb, po, h1, h2, rfl, h4⟩, _⟩ := h
  refine (send_any _ _ _ qb qo Q _ _ _ pb po A k w h1 h4 (by omega) p2 q1 q2 q3).mono fun e w' g => ?_
  unfold sendS
  rw [← netOk_iff h2, ← hok, pkL_len h2.len]
  rcases g with ⟨g, rfl, hb⟩ | ⟨g, ⟨g2, rfl, hb⟩ | ⟨g2, v, rfl, hO, hb⟩⟩
  · rw [if_neg g]; exact ResN.err hb
  · rw [if_pos g, if_pos g2]; exact ResN.err hb
  · rw [if_pos g, if_neg g2]
    obtain ⟨va, vb, vc, rfl, hK, -, hz, hc, hmx⟩ := hO.s
    obtain ⟨S, hS, rfl⟩ := hm
    have hb' : Below w.heap.size w w' := hb
    refine ⟨((va, _, vc), x.2), rfl, ?_, hb⟩
    rw [show pkL Q D ++ [pk k S] = pkL (Q ++ [k]) (D ++ [S]) from (by rw [pkL_app h2.len]; rfl)]
    exact NetV.of_ks hK ((h2.app (Dats.one hS)).grown hb') hz hc (by unfold maxLen at hmx; omega) (h4.grown hb') p2
theorem rsend_s (x : Sl × Sl) (L : List Pk) (A : List Qt) (k : Kt) (m : Pk) (w : World) (h : NetV w x L A) (hm : PkV w k m) : Calls Try.prog 12 #[vN x, vK k] w (ResN (sendS L A m) w) := by
  have q1 := h.q1; have q2 := h.q2; have q3 := h.q3; have p2 := h.p2
  have hok := okK_P hm
  obtain ⟨⟨qb, qo, Q, D, pb, po, h1, h2, rfl, h4⟩, _⟩ := h
  refine (rsend_any _ _ _ qb qo Q _ _ _ pb po A k w h1 h4 (by omega) p2 q3).mono fun e w' g => ?_
  unfold sendS
  rw [← netOk_iff h2, ← hok, pkL_len h2.len]
  rcases g with ⟨g, rfl, hb⟩ | ⟨g, ⟨g2, rfl, hb⟩ | ⟨g2, v, rfl, hO, hb⟩⟩
  · rw [if_neg g]; exact ResN.err hb
  · rw [if_pos g, if_pos g2]; exact ResN.err hb
  · rw [if_pos g, if_neg g2]
    obtain ⟨va, vb, vc, rfl, hK, -, hz, hc, hmx⟩ := hO.s
    obtain ⟨S, hS, rfl⟩ := hm
    have hb' : Below w.heap.size w w' := hb
    refine ⟨((va, _, vc), x.2), rfl, ?_, hb⟩
    rw [show pkL Q D ++ [pk k S] = pkL (Q ++ [k]) (D ++ [S]) from (by rw [pkL_app h2.len]; rfl)]
    exact NetV.of_ks hK ((h2.app (Dats.one hS)).grown hb') hz hc (by unfold maxLen at hmx; omega) (h4.grown hb') p2
theorem lose_s (x : Sl × Sl) (L : List Pk) (A : List Qt) (i : Int) (w : World) (h : NetV w x L A) : Calls Try.prog 23 #[vN x, .int .i64 i] w (ResN (loseS L A i) w) := by
  have q1 := h.q1; have q2 := h.q2; have q3 := h.q3; have p2 := h.p2
  obtain ⟨⟨qb, qo, Q, D, pb, po, h1, h2, rfl, h4⟩, _⟩ := h
  refine (lose_any _ _ _ qb qo Q _ _ _ pb po A i w h1 h4 (by omega) p2 q1 q2).mono fun e w' g => ?_
  unfold loseS
  rw [← askC_S h2]
  rcases g with ⟨g, rfl, hb⟩ | ⟨k, v, rfl, g2, g3, rfl, hV, hb⟩
  · rw [if_neg g]; exact ResN.err hb
  · rw [if_pos (askC_ok g3 (by omega))]
    obtain ⟨a, n, c, b, off, rfl, e1, e2, e3, e4, _⟩ := hV
    refine ⟨((a, n, c), x.2), rfl, ?_, hb⟩
    rw [Int.toNat_natCast, ← pkL_del Q D h2.len]
    exact NetV.of_ks e1 (((h2.tk k).app (h2.dr (k + 1))).grown hb) e2 e3 e4 (h4.grown hb) p2
theorem rlose_s (x : Sl × Sl) (L : List Pk) (A : List Qt) (i : Int) (w : World) (h : NetV w x L A) : Calls Try.prog 24 #[vN x, .int .i64 i] w (ResN (loseS L A i) w) := by
  have q1 := h.q1; have q2 := h.q2; have q3 := h.q3; have p2 := h.p2
  obtain ⟨⟨qb, qo, Q, D, pb, po, h1, h2, rfl, h4⟩, _⟩ := h
  refine (rlose_any _ _ _ qb qo Q _ _ _ pb po A i w h1 h4 (by omega) p2 q1 q2).mono fun e w' g => ?_
  unfold loseS
  rw [← askC_S h2]
  rcases g with ⟨g, rfl, hb⟩ | ⟨k, v, rfl, g2, g3, rfl, hV, hb⟩
  · rw [if_neg g]; exact ResN.err hb
  · rw [if_pos (askC_ok g3 (by omega))]
    obtain ⟨a, n, c, b, off, rfl, e1, e2, e3, e4, _⟩ := hV
    refine ⟨((a, n, c), x.2), rfl, ?_, hb⟩
    rw [Int.toNat_natCast, ← pkL_del Q D h2.len]
    exact NetV.of_ks e1 (((h2.tk k).app (h2.dr (k + 1))).grown hb) e2 e3 e4 (h4.grown hb) p2
theorem repeat_s (x : Sl × Sl) (L : List Pk) (A : List Qt) (i : Int) (w : World) (h : NetV w x L A) : Calls Try.prog 25 #[vN x, .int .i64 i] w (ResN (repS L A i) w) := by
  have q1 := h.q1; have q2 := h.q2; have q3 := h.q3; have p2 := h.p2
  obtain ⟨⟨qb, qo, Q, D, pb, po, h1, h2, rfl, h4⟩, _⟩ := h
  refine (repeat_any _ _ _ qb qo Q _ _ _ pb po A i w h1 h4 (by omega) p2 q1 q2 q3).mono fun e w' g => ?_
  unfold repS
  rw [← askC_S h2, pkL_len h2.len]
  rcases g with ⟨g, rfl, hb⟩ | ⟨k, rfl, g2, g3, ⟨g4, rfl, hb⟩ | ⟨g4, v, rfl, hO, hb⟩⟩
  · rw [if_neg g]; exact ResN.err hb
  · rw [if_pos (askC_ok g3 (by omega)), if_pos g4]; exact ResN.err hb
  · rw [if_pos (askC_ok g3 (by omega)), if_neg g4]
    obtain ⟨va, vb, vc, rfl, hK, -, hz, hc, hmx⟩ := hO.s
    refine ⟨((va, _, vc), x.2), rfl, ?_, hb⟩
    rw [Int.toNat_natCast, getD_pk h2.len g2, show pkL Q D ++ [pk (nthK Q k) (nthD D k)] = pkL (Q ++ [nthK Q k]) (D ++ [nthD D k]) from (by rw [pkL_app h2.len]; rfl)]
    exact NetV.of_ks hK ((h2.app (Dats.one (h2.dat k g2))).grown hb) hz hc (by unfold maxLen at hmx; omega) (h4.grown hb) p2
theorem rrepeat_s (x : Sl × Sl) (L : List Pk) (A : List Qt) (i : Int) (w : World) (h : NetV w x L A) : Calls Try.prog 26 #[vN x, .int .i64 i] w (ResN (repS L A i) w) := by
  have q1 := h.q1; have q2 := h.q2; have q3 := h.q3; have p2 := h.p2
  obtain ⟨⟨qb, qo, Q, D, pb, po, h1, h2, rfl, h4⟩, _⟩ := h
  refine (rrepeat_any _ _ _ qb qo Q _ _ _ pb po A i w h1 h4 (by omega) p2 q3).mono fun e w' g => ?_
  unfold repS
  rw [← askC_S h2, pkL_len h2.len]
  rcases g with ⟨g, rfl, hb⟩ | ⟨k, rfl, g2, g3, ⟨g4, rfl, hb⟩ | ⟨g4, v, rfl, hO, hb⟩⟩
  · rw [if_neg g]; exact ResN.err hb
  · rw [if_pos (askC_ok g3 (by omega)), if_pos g4]; exact ResN.err hb
  · rw [if_pos (askC_ok g3 (by omega)), if_neg g4]
    obtain ⟨va, vb, vc, rfl, hK, -, hz, hc, hmx⟩ := hO.s
    refine ⟨((va, _, vc), x.2), rfl, ?_, hb⟩
    rw [Int.toNat_natCast, getD_pk h2.len g2, show pkL Q D ++ [pk (nthK Q k) (nthD D k)] = pkL (Q ++ [nthK Q k]) (D ++ [nthD D k]) from (by rw [pkL_app h2.len]; rfl)]
    exact NetV.of_ks hK ((h2.app (Dats.one (h2.dat k g2))).grown hb) hz hc (by unfold maxLen at hmx; omega) (h4.grown hb) p2
theorem deliver_s (x : Sl × Sl) (L : List Pk) (A : List Qt) (i : Int) (w : World) (h : NetV w x L A) : Calls Try.prog 20 #[vN x, .int .i64 i] w (ResD L A i w) := by
  have q1 := h.q1; have q2 := h.q2; have q3 := h.q3; have p2 := h.p2
  obtain ⟨⟨qb, qo, Q, D, pb, po, h1, h2, rfl, h4⟩, _⟩ := h
  refine (deliver_any _ _ _ qb qo Q _ _ _ pb po A i w h1 h4 (by omega) p2 q1 q2).mono fun e w' g => ?_
  unfold ResD loseS
  rw [← askC_S h2]
  rcases g with ⟨g, rfl, hb⟩ | ⟨k, v, rfl, g2, g3, rfl, hV, hb⟩
  · rw [if_neg g, if_neg g]; exact ⟨zK, zN, rfl, PkV.zero w', NetV.zero w', hb⟩
  · have ha := askC_ok (i := (k : Int)) g3 (by omega)
    rw [if_pos ha, if_pos ha, ha]
    obtain ⟨a, n, c, b, off, rfl, e1, e2, e3, e4, _⟩ := hV
    refine ⟨_, ((a, n, c), x.2), rfl, ?_, ?_, hb⟩
    · rw [Int.toNat_natCast, getD_pk h2.len g2]
      by_cases hin : prQ (nthK Q k).1 (nthK Q k).2.1 ∈ A
      · rw [delK_t hin]
        unfold delS
        rw [if_pos (show prQ (pk (nthK Q k) (nthD D k)).1 (pk (nthK Q k) (nthD D k)).2.1 ∈ A from hin)]
        exact PkV.zero w'
      · rw [delK_f hin]
        unfold delS
        rw [if_neg (show ¬ prQ (pk (nthK Q k) (nthD D k)).1 (pk (nthK Q k) (nthD D k)).2.1 ∈ A from hin)]
        exact ⟨nthD D k, (h2.dat k g2).grown hb, rfl⟩
    · rw [Int.toNat_natCast, ← pkL_del Q D h2.len]
      exact NetV.of_ks e1 (((h2.tk k).app (h2.dr (k + 1))).grown hb) e2 e3 e4 (h4.grown hb) p2
theorem rdeliver_s (x : Sl × Sl) (L : List Pk) (A : List Qt) (i : Int) (w : World) (h : NetV w x L A) : Calls Try.prog 21 #[vN x, .int .i64 i] w (ResD L A i w) := by
  have q1 := h.q1; have q2 := h.q2; have q3 := h.q3; have p2 := h.p2
  obtain ⟨⟨qb, qo, Q, D, pb, po, h1, h2, rfl, h4⟩, _⟩ := h
  refine (rdeliver_any _ _ _ qb qo Q _ _ _ pb po A i w h1 h4 (by omega) p2 q1 q2).mono fun e w' g => ?_
  unfold ResD loseS
  rw [← askC_S h2]
  rcases g with ⟨g, rfl, hb⟩ | ⟨k, v, rfl, g2, g3, rfl, hV, hb⟩
  · rw [if_neg g, if_neg g]; exact ⟨zK, zN, rfl, PkV.zero w', NetV.zero w', hb⟩
  · have ha := askC_ok (i := (k : Int)) g3 (by omega)
    rw [if_pos ha, if_pos ha, ha]
    obtain ⟨a, n, c, b, off, rfl, e1, e2, e3, e4, _⟩ := hV
    refine ⟨_, ((a, n, c), x.2), rfl, ?_, ?_, hb⟩
    · rw [Int.toNat_natCast, getD_pk h2.len g2]
      by_cases hin : prQ (nthK Q k).1 (nthK Q k).2.1 ∈ A
      · rw [delK_t hin]
        unfold delS
        rw [if_pos (show prQ (pk (nthK Q k) (nthD D k)).1 (pk (nthK Q k) (nthD D k)).2.1 ∈ A from hin)]
        exact PkV.zero w'
      · rw [delK_f hin]
        unfold delS
        rw [if_neg (show ¬ prQ (pk (nthK Q k) (nthD D k)).1 (pk (nthK Q k) (nthD D k)).2.1 ∈ A from hin)]
        exact ⟨nthD D k, (h2.dat k g2).grown hb, rfl⟩
    · rw [Int.toNat_natCast, ← pkL_del Q D h2.len]
      exact NetV.of_ks e1 (((h2.tk k).app (h2.dr (k + 1))).grown hb) e2 e3 e4 (h4.grown hb) p2
theorem cut_s (x : Sl × Sl) (L : List Pk) (A : List Qt) (a b : Int) (on : Bool) (w : World) (h : NetV w x L A) : Calls Try.prog 18 #[vN x, .int .i64 a, .int .i64 b, .bool on] w (ResN (cutS L A a b on) w) := by
  have q1 := h.q1; have q2 := h.q2; have q3 := h.q3; have p2 := h.p2
  obtain ⟨⟨qb, qo, Q, D, pb, po, h1, h2, rfl, h4⟩, _⟩ := h
  refine (cut_any _ _ _ qb qo Q _ _ _ pb po A a b on w h1 h4 (by omega) p2).mono fun e w' g => ?_
  unfold cutS
  rw [← netOk_iff h2]
  rcases g with ⟨g, rfl, hb⟩ | ⟨g, g2, rfl, hb⟩ | ⟨g, g2, v, rfl, hO, hb⟩
  · rw [if_neg g]; exact ResN.err hb
  · rw [if_pos g, if_neg g2]; exact ResN.err hb
  · rw [if_pos g, if_pos g2]
    obtain ⟨va, vb, vc, rfl, hK, -, hz, hc, hmx⟩ := hO.s
    refine ⟨(x.1, (va, _, vc)), rfl, ⟨⟨qb, qo, Q, D, vb, 0, h1.grown hb, h2.grown hb, rfl, hK⟩, q1, q2, q3, by unfold maxLen at hmx; dsimp only; omega⟩, hb⟩
theorem rcut_s (x : Sl × Sl) (L : List Pk) (A : List Qt) (a b : Int) (on : Bool) (w : World) (h : NetV w x L A) : Calls Try.prog 19 #[vN x, .int .i64 a, .int .i64 b, .bool on] w (ResN (cutS L A a b on) w) := by
  have q1 := h.q1; have q2 := h.q2; have q3 := h.q3; have p2 := h.p2
  obtain ⟨⟨qb, qo, Q, D, pb, po, h1, h2, rfl, h4⟩, _⟩ := h
  refine (rcut_any _ _ _ qb qo Q _ _ _ pb po A a b on w h1 h4 (by omega) p2).mono fun e w' g => ?_
  unfold cutS
  rw [← netOk_iff h2]
  rcases g with ⟨g, rfl, hb⟩ | ⟨g, g2, rfl, hb⟩ | ⟨g, g2, v, rfl, hO, hb⟩
  · rw [if_neg g]; exact ResN.err hb
  · rw [if_pos g, if_neg g2]; exact ResN.err hb
  · rw [if_pos g, if_pos g2]
    obtain ⟨va, vb, vc, rfl, hK, -, hz, hc, hmx⟩ := hO.s
    refine ⟨(x.1, (va, _, vc)), rfl, ⟨⟨qb, qo, Q, D, vb, 0, h1.grown hb, h2.grown hb, rfl, hK⟩, q1, q2, q3, by unfold maxLen at hmx; dsimp only; omega⟩, hb⟩
end Go.Proofs.Ythgbkdaimnejeaa
