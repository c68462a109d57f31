/- Links and packets that keep out of given blocks (layer 6). -/
import Derived.Test.YthgbkdaimnejeaaNetOnA
import Derived.Test.YthgbkdaimnejeaaNetAllA
namespace Go.Proofs.Ythgbkdaimnejeaa
open Go.ChangeShapes Go.WideShapes Go.ChangeAt Go.RowKit Go.Sort Go.Shelf

def AvS (P : Nat → Prop) (s : Sl) : Prop := ∀ ad : Addr, s.1 = some ad → 0 < s.2.1 → ¬ P ad.block
def AvQ (P : Nat → Prop) (Q : List Kt) : Prop := ∀ k ∈ Q, AvS P k.2.2
theorem AvS.nil (P : Nat → Prop) (n c : Nat) : AvS P (none, n, c) := fun ad h => by cases h
theorem AvS.mono {P P' : Nat → Prop} {s : Sl} (h : AvS P s) (hp : ∀ b, P' b → P b) : AvS P' s := fun ad h1 h2 h3 => h ad h1 h2 (hp _ h3)
theorem avS_own {P : Nat → Prop} {w : World} {B size n : Nat} {e : TypeId} {xs : List Value} {a : Option Addr} {m c : Nat} (h : w.ownsRow B e size (.slice a m c) n xs) (hP : ∀ b, P b → b < B) : AvS P (a, m, c) := by
  rcases h.2 with ⟨h0, _⟩ | ⟨q, cap, cur, h1, h2, _⟩
  · cases h0; exact AvS.nil _ _ _
  · cases h1
    intro ad h3 _ h4
    cases h3
    have := hP _ h4
    dsimp only at this
    omega
theorem AvQ.app {P : Nat → Prop} {Q Q' : List Kt} (h : AvQ P Q) (h' : AvQ P Q') : AvQ P (Q ++ Q') := fun k hk => (List.mem_append.1 hk).elim (h k) (h' k)
theorem AvQ.one {P : Nat → Prop} {k : Kt} (h : AvS P k.2.2) : AvQ P [k] := fun k' hk => by rw [List.mem_singleton.1 hk]; exact h
theorem AvQ.tk {P : Nat → Prop} {Q : List Kt} (h : AvQ P Q) (k : Nat) : AvQ P (Q.take k) := fun x hx => h x (List.mem_of_mem_take hx)
theorem AvQ.dr {P : Nat → Prop} {Q : List Kt} (h : AvQ P Q) (k : Nat) : AvQ P (Q.drop k) := fun x hx => h x (List.mem_of_mem_drop hx)
theorem AvQ.nth {P : Nat → Prop} {Q : List Kt} (h : AvQ P Q) {k : Nat} (hk : k < Q.length) : AvS P (nthK Q k).2.2 := h _ (by unfold nthK; rw [List.getD_eq_getElem?_getD, List.getElem?_eq_getElem hk]; exact List.getElem_mem _)
/-- Links, by what they hold, that have nothing in a block of P. -/
structure NetVP (P : Nat → Prop) (w : World) (x : Sl × Sl) (L : List Pk) (A : List Qt) : Prop where
  ex : ∃ qb qo Q D pb po, Ks w x.1.1 x.1.2.1 qb qo Q ∧ Dats w Q D ∧ pkL Q D = L ∧ Qs w x.2.1 x.2.2.1 pb po A ∧ AvQ P Q
  s1 : AvS P x.1
  s2 : AvS P x.2
  q1 : x.1.2.1 ≤ x.1.2.2
  q2 : x.1.2.2 ≤ 9223372036854775807
  q3 : x.1.1 = none → x.1.2.2 = 0
  p2 : x.2.2.1 ≤ 9223372036854775807
def PkVP (P : Nat → Prop) (w : World) (k : Kt) (m : Pk) : Prop := PkV w k m ∧ AvS P k.2.2
section
variable {P : Nat → Prop} {w w' : World} {x : Sl × Sl} {L : List Pk} {A : List Qt}
theorem NetVP.v (h : NetVP P w x L A) : NetV w x L A := by
  obtain ⟨⟨qb, qo, Q, D, pb, po, h1, h2, h3, h4, _⟩, _, _, h5, h6, h7, h8⟩ := h
  exact ⟨⟨qb, qo, Q, D, pb, po, h1, h2, h3, h4⟩, h5, h6, h7, h8⟩
theorem NetVP.grown (h : NetVP P w x L A) (hb : Below w.heap.size w w') : NetVP P w' x L A := by
  obtain ⟨⟨qb, qo, Q, D, pb, po, h1, h2, h3, h4, h9⟩, s1, s2, h5, h6, h7, h8⟩ := h
  exact ⟨⟨qb, qo, Q, D, pb, po, h1.grown hb, h2.grown hb, h3, h4.grown hb, h9⟩, s1, s2, h5, h6, h7, h8⟩
theorem NetVP.zero (P : Nat → Prop) (w : World) : NetVP P w zN [] [] := ⟨⟨0, 0, [], [], 0, 0, Ks.zero w _, ⟨rfl, fun i hi => by simp at hi⟩, rfl, Qs.zero w _, fun k hk => by cases hk⟩, AvS.nil _ _ _, AvS.nil _ _ _, Nat.le_refl _, by simp, fun _ => rfl, by simp⟩
theorem Ks.adrE {a : Option Addr} {n b off : Nat} {l : List Kt} (h : Ks w a n b off l) (hs : AvS P (a, n, 0)) : 0 < n → ¬ P b := fun hn => by
  have := hs _ (h.2.1 hn).1 hn
  exact this
theorem AvS.cap {a : Option Addr} {n c c' : Nat} (h : AvS P (a, n, c)) : AvS P (a, n, c') := fun ad h1 h2 => h ad h1 h2
/-- With one block more to keep out of, which is new. -/
theorem NetVP.more (h : NetVP P w x L A) {p : Nat} (hp : w.heap.size ≤ p) : NetVP (fun b => P b ∨ b = p) w x L A := by
  obtain ⟨⟨qb, qo, Q, D, pb, po, h1, h2, h3, h4, h9⟩, s1, s2, h5, h6, h7, h8⟩ := h
  have key : ∀ {s : Sl}, AvS P s → (∀ ad, s.1 = some ad → 0 < s.2.1 → ad.block < w.heap.size) → AvS (fun b => P b ∨ b = p) s := fun hs hl ad e1 e2 e3 => by
    have := hl ad e1 e2
    rcases e3 with e3 | e3
    · exact hs ad e1 e2 e3
    · omega
  refine ⟨⟨qb, qo, Q, D, pb, po, h1, h2, h3, h4, fun k hk => key (h9 k hk) fun ad e1 e2 => ?_⟩, key s1 fun ad e1 e2 => ?_, key s2 fun ad e1 e2 => ?_, h5, h6, h7, h8⟩
  · obtain ⟨i, hi, rfl⟩ := List.mem_iff_getElem.1 hk
    obtain ⟨b, off, l, hR, _⟩ := h2.dat i hi
    have e : nthK Q i = Q[i] := by unfold nthK; rw [List.getD_eq_getElem?_getD, List.getElem?_eq_getElem hi]; rfl
    rw [e] at hR
    have := hR.adr e2
    rw [e1] at this
    cases this
    exact hR.old e2
  · have := h1.2.1 e2
    rw [e1] at this
    obtain ⟨h, g⟩ := this
    cases h
    exact g
  · have := h4.2.1 e2
    rw [e1] at this
    obtain ⟨h, g⟩ := this
    cases h
    exact g
theorem NetVP.less (h : NetVP P w x L A) {P' : Nat → Prop} (hp : ∀ b, P' b → P b) : NetVP P' w x L A := by
  obtain ⟨⟨qb, qo, Q, D, pb, po, h1, h2, h3, h4, h9⟩, s1, s2, h5, h6, h7, h8⟩ := h
  exact ⟨⟨qb, qo, Q, D, pb, po, h1, h2, h3, h4, fun k hk => (h9 k hk).mono hp⟩, s1.mono hp, s2.mono hp, h5, h6, h7, h8⟩
theorem NetVP.far (h : NetVP P w x L A) {p i : Nat} {u : Value} (hp : P p) (hu : NoU8 w p) : NetVP P (w.setCell ⟨p, i, none⟩ u) x L A := by
  obtain ⟨⟨qb, qo, Q, D, pb, po, h1, h2, h3, h4, h9⟩, s1, s2, h5, h6, h7, h8⟩ := h
  exact ⟨⟨qb, qo, Q, D, pb, po, h1.far fun hn e => s1 _ (h1.2.1 hn).1 hn (e ▸ hp), h2.farU hu, h3, h4.far fun hn e => s2 _ (h4.2.1 hn).1 hn (e ▸ hp), h9⟩, s1, s2, h5, h6, h7, h8⟩
theorem NetVP.farN (h : NetVP P w x L A) {p i : Nat} {u : Value} (hp : NoInt w p) : NetVP P (w.setCell ⟨p, i, none⟩ u) x L A := by
  obtain ⟨⟨qb, qo, Q, D, pb, po, h1, h2, h3, h4, h9⟩, s1, s2, h5, h6, h7, h8⟩ := h
  exact ⟨⟨qb, qo, Q, D, pb, po, h1.far fun hn => hp _ _ _ _ (h1.2.2 0 hn).1, h2.farU (fun b o k hk => hp b o _ k hk), h3, h4.far fun hn => hp _ _ _ _ (h4.2.2 0 hn).1, h9⟩, s1, s2, h5, h6, h7, h8⟩
theorem NetVP.box {g : Nat} {a b c d e f a' b' c' d' e' f' : _} {t : TypeId} (h : NetVP P w x L A) (hg : w.heap[g]? = some (.cells #[.slice a b c, .slice d e f] t (0, 0))) : NetVP P ((w.setCell ⟨g, 0, none⟩ (.slice a' b' c')).setCell ⟨g, 1, none⟩ (.slice d' e' f')) x L A :=
  (h.farN (noInt_box hg)).farN (noInt_box (cells_setQ hg))
theorem PkVP.grown {k : Kt} {m : Pk} (h : PkVP P w k m) (hb : Below w.heap.size w w') : PkVP P w' k m := ⟨h.1.grown hb, h.2⟩
theorem PkVP.box {g : Nat} {a b c d e f a' b' c' d' e' f' : _} {t : TypeId} {k : Kt} {m : Pk} (h : PkVP P w k m) (hg : w.heap[g]? = some (.cells #[.slice a b c, .slice d e f] t (0, 0))) : PkVP P ((w.setCell ⟨g, 0, none⟩ (.slice a' b' c')).setCell ⟨g, 1, none⟩ (.slice d' e' f')) k m := ⟨h.1.box hg, h.2⟩
theorem PkVP.zero (P : Nat → Prop) (w : World) : PkVP P w zK zP := ⟨PkV.zero w, AvS.nil _ _ _⟩
theorem DatR.keep {s : Sl} {S : ByteArray} {own : Option Nat} (h : DatR w s S) (hg : w.grownBy w' own) (hne : ∀ ad : Addr, s.1 = some ad → 0 < s.2.1 → some ad.block ≠ own) : DatR w' s S := by
  obtain ⟨b, off, l, hR, rfl⟩ := h
  refine ⟨b, off, l, ⟨hR.len, hR.adr, fun hn => Nat.lt_of_lt_of_le (hR.old hn) hg.size, fun i hi => ?_⟩, rfl⟩
  have h0 : 0 < s.2.1 := by omega
  have hb := hg.block b (hR.old h0) (hne _ (hR.adr h0) h0)
  have := hR.cel i hi
  unfold World.cell? at this ⊢
  simp only [hb]
  exact this
theorem Qs.keep {a : Option Addr} {n b off : Nat} {l : List Qt} {own : Option Nat} (h : Qs w a n b off l) (hg : w.grownBy w' own) (hne : 0 < n → some b ≠ own) : Qs w' a n b off l := by
  refine ⟨h.1, fun hn => ⟨(h.2.1 hn).1, Nat.lt_of_lt_of_le (h.2.1 hn).2 hg.size⟩, fun i hi => ?_⟩
  have hb := hg.block b (h.2.1 (by omega)).2 (hne (by omega))
  have hc : ∀ o : Nat, w'.cell? ⟨b, o, none⟩ = w.cell? ⟨b, o, none⟩ := fun o => by
    unfold World.cell?
    simp only [hb]
  obtain ⟨c0, c1⟩ := h.2.2 i hi
  exact ⟨(hc _).trans c0, (hc _).trans c1⟩
theorem Dats.keep {Q : List Kt} {D : List ByteArray} {own : Option Nat} (h : Dats w Q D) (hg : w.grownBy w' own) (hA : AvQ P Q) (hP : ∀ b, own = some b → P b) : Dats w' Q D :=
  ⟨h.len, fun i hi => (h.dat i hi).keep hg fun ad e1 e2 e3 => hA.nth hi ad e1 e2 (hP _ e3.symm)⟩
theorem NetVP.keep {own : Option Nat} (h : NetVP P w x L A) (hg : w.grownBy w' own) (hP : ∀ b, own = some b → P b) : NetVP P w' x L A := by
  obtain ⟨⟨qb, qo, Q, D, pb, po, h1, h2, h3, h4, h9⟩, s1, s2, h5, h6, h7, h8⟩ := h
  exact ⟨⟨qb, qo, Q, D, pb, po, h1.keep hg fun hn e => s1 _ (h1.2.1 hn).1 hn (hP _ e.symm), h2.keep hg h9 hP, h3, h4.keep hg fun hn e => s2 _ (h4.2.1 hn).1 hn (hP _ e.symm), h9⟩, s1, s2, h5, h6, h7, h8⟩
end
def ResNP (P : Nat → Prop) (r : Rn) (w : World) (e : Ending) (w' : World) : Prop := ∃ x : Sl × Sl, e = .returned (.tuple #[vN x, .int .i64 r.1]) ∧ NetVP P w' x r.2.1 r.2.2 ∧ Below w.heap.size w w'
theorem ResNP.err {P : Nat → Prop} {c : Int} {w w' : World} (hb : Below w.heap.size w w') : ResNP P (c, [], []) w (.returned (.tuple #[vN zN, .int .i64 c])) w' := ⟨zN, rfl, NetVP.zero P w', hb⟩
section
variable (P : Nat → Prop) (x : Sl × Sl) (L : List Pk) (A : List Qt) (w : World)
theorem send_p (k : Kt) (m : Pk) (h : NetVP P w x L A) (hm : PkVP P w k m) (hP : ∀ b, P b → b < w.heap.size) : Calls Try.prog 11 #[vN x, vK k] w (ResNP P (sendS L A m) w) := by
  obtain ⟨hm, hav⟩ := hm
  have q1 := h.q1; have q2 := h.q2; have q3 := h.q3; have p2 := h.p2; have s1 := h.s1; have s2 := h.s2
  have hok := okK_P hm
  obtain ⟨⟨qb, qo, Q, D, pb, po, h1, h2, rfl, h4, h9⟩, _⟩ := h
  refine (send_any _ _ _ qb qo Q _ _ _ pb po A k w h1 h4 (by omega) p2 q1 q2 q3).mono fun e w' g => ?_
  unfold sendS
  rw [← netOk_iff h2, ← hok, pkL_len h2.len]
  rcases g with ⟨g, rfl, hb⟩ | ⟨g, ⟨g2, rfl, hb⟩ | ⟨g2, v, rfl, hO, hb⟩⟩
  · rw [if_neg g]; exact ResNP.err hb
  · rw [if_pos g, if_pos g2]; exact ResNP.err hb
  · rw [if_pos g, if_neg g2]
    obtain ⟨va, vb, vc, rfl, hK, -, hz, hc, hmx⟩ := hO.s
    obtain ⟨S, hS, rfl⟩ := hm
    have hb' : Below w.heap.size w w' := hb
    refine ⟨((va, _, vc), x.2), rfl, ?_, hb⟩
    rw [show pkL Q D ++ [pk k S] = pkL (Q ++ [k]) (D ++ [S]) from (by rw [pkL_app h2.len]; rfl)]
    exact ⟨⟨_, _, _, _, pb, po, hK, (h2.app (Dats.one hS)).grown hb', rfl, h4.grown hb', h9.app (AvQ.one hav)⟩, avS_own hO hP, s2, hc, by unfold maxLen at hmx; dsimp only; omega, hz, p2⟩
theorem avS_ksV {w' : World} {B q : Nat} {a : Option Addr} {n c b off : Nat} {l : List Kt} (hK : Ks w' a n b off l) (he : 0 < n → b = q ∨ B ≤ b) (hP : ∀ b, P b → b < B) (hq : ¬ P q) : AvS P (a, n, c) := by
  intro ad e1 e2 e3
  have := (hK.2.1 e2).1
  dsimp only at e1
  rw [e1] at this
  cases this
  rcases he e2 with e | e
  · exact hq (e ▸ e3)
  · have := hP _ e3
    dsimp only at this
    omega
theorem lose_p (i : Int) (h : NetVP P w x L A) (hP : ∀ b, P b → b < w.heap.size) : Calls Try.prog 23 #[vN x, .int .i64 i] w (ResNP P (loseS L A i) w) := by
  have q1 := h.q1; have q2 := h.q2; have q3 := h.q3; have p2 := h.p2; have s1 := h.s1; have s2 := h.s2
  obtain ⟨⟨qb, qo, Q, D, pb, po, h1, h2, rfl, h4, h9⟩, _⟩ := h
  refine (lose_any _ _ _ qb qo Q _ _ _ pb po A i w h1 h4 (by omega) p2 q1 q2).mono fun e w' g => ?_
  unfold loseS
  rw [← askC_S h2]
  rcases g with ⟨g, rfl, hb⟩ | ⟨k, v, rfl, g2, g3, rfl, hV, hb⟩
  · rw [if_neg g]; exact ResNP.err hb
  · rw [if_pos (askC_ok g3 (by omega))]
    obtain ⟨a, n, c, b, off, rfl, e1, e2, e3, e4, e5⟩ := hV
    have hkn : 0 < x.1.2.1 := by have := h1.1; omega
    refine ⟨((a, n, c), x.2), rfl, ?_, hb⟩
    rw [Int.toNat_natCast, ← pkL_del Q D h2.len]
    exact ⟨⟨_, _, _, _, pb, po, e1, ((h2.tk k).app (h2.dr (k + 1))).grown hb, rfl, h4.grown hb, (h9.tk k).app (h9.dr (k + 1))⟩, avS_ksV P e1 e5 hP (s1 _ (h1.2.1 hkn).1 hkn), s2, e3, e4, e2, p2⟩
theorem repeat_p (i : Int) (h : NetVP P w x L A) (hP : ∀ b, P b → b < w.heap.size) : Calls Try.prog 25 #[vN x, .int .i64 i] w (ResNP P (repS L A i) w) := by
  have q1 := h.q1; have q2 := h.q2; have q3 := h.q3; have p2 := h.p2; have s1 := h.s1; have s2 := h.s2
  obtain ⟨⟨qb, qo, Q, D, pb, po, h1, h2, rfl, h4, h9⟩, _⟩ := h
  refine (repeat_any _ _ _ qb qo Q _ _ _ pb po A i w h1 h4 (by omega) p2 q1 q2 q3).mono fun e w' g => ?_
  unfold repS
  rw [← askC_S h2, pkL_len h2.len]
  rcases g with ⟨g, rfl, hb⟩ | ⟨k, rfl, g2, g3, ⟨g4, rfl, hb⟩ | ⟨g4, v, rfl, hO, hb⟩⟩
  · rw [if_neg g]; exact ResNP.err hb
  · rw [if_pos (askC_ok g3 (by omega)), if_pos g4]; exact ResNP.err hb
  · rw [if_pos (askC_ok g3 (by omega)), if_neg g4]
    obtain ⟨va, vb, vc, rfl, hK, -, hz, hc, hmx⟩ := hO.s
    refine ⟨((va, _, vc), x.2), rfl, ?_, hb⟩
    rw [Int.toNat_natCast, getD_pk h2.len g2, show pkL Q D ++ [pk (nthK Q k) (nthD D k)] = pkL (Q ++ [nthK Q k]) (D ++ [nthD D k]) from (by rw [pkL_app h2.len]; rfl)]
    exact ⟨⟨_, _, _, _, pb, po, hK, (h2.app (Dats.one (h2.dat k g2))).grown hb, rfl, h4.grown hb, h9.app (AvQ.one (h9.nth g2))⟩, avS_own hO hP, s2, hc, by unfold maxLen at hmx; dsimp only; omega, hz, p2⟩
theorem cut_p (a b : Int) (on : Bool) (h : NetVP P w x L A) (hP : ∀ b, P b → b < w.heap.size) : Calls Try.prog 18 #[vN x, .int .i64 a, .int .i64 b, .bool on] w (ResNP P (cutS L A a b on) w) := by
  have q1 := h.q1; have q2 := h.q2; have q3 := h.q3; have p2 := h.p2; have s1 := h.s1; have s2 := h.s2
  obtain ⟨⟨qb, qo, Q, D, pb, po, h1, h2, rfl, h4, h9⟩, _⟩ := h
  refine (cut_any _ _ _ qb qo Q _ _ _ pb po A a b on w h1 h4 (by omega) p2).mono fun e w' g => ?_
  unfold cutS
  rw [← netOk_iff h2]
  rcases g with ⟨g, rfl, hb⟩ | ⟨g, g2, rfl, hb⟩ | ⟨g, g2, v, rfl, hO, hb⟩
  · rw [if_neg g]; exact ResNP.err hb
  · rw [if_pos g, if_neg g2]; exact ResNP.err hb
  · rw [if_pos g, if_pos g2]
    obtain ⟨va, vb, vc, rfl, hK, -, hz, hc, hmx⟩ := hO.s
    exact ⟨(x.1, (va, _, vc)), rfl, ⟨⟨qb, qo, Q, D, vb, 0, h1.grown hb, h2.grown hb, rfl, hK, h9⟩, s1, avS_own hO hP, q1, q2, q3, by unfold maxLen at hmx; dsimp only; omega⟩, hb⟩
theorem deliver_p (i : Int) (h : NetVP P w x L A) (hP : ∀ b, P b → b < w.heap.size) : Calls Try.prog 20 #[vN x, .int .i64 i] w fun e w' => ∃ (k : Kt) (y : Sl × Sl), e = .returned (.tuple #[vK k, vN y, .int .i64 (askS L A i)]) ∧ PkVP P w' k (if askS L A i = 0 then delS A (L.getD i.toNat zP) else zP) ∧ NetVP P w' y (loseS L A i).2.1 (loseS L A i).2.2 ∧ Below w.heap.size w w' := by
  have q1 := h.q1; have q2 := h.q2; have q3 := h.q3; have p2 := h.p2; have s1 := h.s1; have s2 := h.s2
  obtain ⟨⟨qb, qo, Q, D, pb, po, h1, h2, rfl, h4, h9⟩, _⟩ := h
  refine (deliver_any _ _ _ qb qo Q _ _ _ pb po A i w h1 h4 (by omega) p2 q1 q2).mono fun e w' g => ?_
  unfold loseS
  rw [← askC_S h2]
  rcases g with ⟨g, rfl, hb⟩ | ⟨k, v, rfl, g2, g3, rfl, hV, hb⟩
  · rw [if_neg g, if_neg g]
    exact ⟨zK, zN, rfl, PkVP.zero P w', NetVP.zero P w', hb⟩
  · have ha := askC_ok (i := (k : Int)) g3 (by omega)
    rw [if_pos ha, if_pos ha, ha]
    obtain ⟨a, n, c, b, off, rfl, e1, e2, e3, e4, e5⟩ := hV
    have hkn : 0 < x.1.2.1 := by have := h1.1; omega
    refine ⟨_, ((a, n, c), x.2), rfl, ?_, ?_, hb⟩
    · rw [Int.toNat_natCast, getD_pk h2.len g2]
      by_cases hin : prQ (nthK Q k).1 (nthK Q k).2.1 ∈ A
      · rw [delK_t hin]
        unfold delS
        rw [if_pos (show prQ (pk (nthK Q k) (nthD D k)).1 (pk (nthK Q k) (nthD D k)).2.1 ∈ A from hin)]
        exact PkVP.zero P w'
      · rw [delK_f hin]
        unfold delS
        rw [if_neg (show ¬ prQ (pk (nthK Q k) (nthD D k)).1 (pk (nthK Q k) (nthD D k)).2.1 ∈ A from hin)]
        exact ⟨⟨nthD D k, (h2.dat k g2).grown hb, rfl⟩, h9.nth g2⟩
    · rw [Int.toNat_natCast, ← pkL_del Q D h2.len]
      exact ⟨⟨_, _, _, _, pb, po, e1, ((h2.tk k).app (h2.dr (k + 1))).grown hb, rfl, h4.grown hb, (h9.tk k).app (h9.dr (k + 1))⟩, avS_ksV P e1 e5 hP (s1 _ (h1.2.1 hkn).1 hkn), s2, e3, e4, e2, p2⟩
end
end Go.Proofs.Ythgbkdaimnejeaa
