/- The mathematics of ParseRule: a text is cut at ' < ', or split at its spaces: the same pieces. No conditions. -/
import Derived.Lib.IndexMore
import Derived.Test.YtkojeajjappchaaRuleM
import Derived.Test.YtkojeajjappchaaSplitSp
namespace Go.Proofs.Ytkojeajjappchaa.Row
open Go.ChangeShapes Go.WideShapes Go.ChangeAt Go.RowKit Go.Instr
set_option linter.unusedVariables false
set_option maxRecDepth 100000

def freeS (l : List UInt8) : Prop := ∀ c ∈ l, c ≠ 32
theorem goSp_cut : ∀ (a cur t : List UInt8), freeS a → Sp.goS cur (a ++ 32 :: t) = (cur ++ a) :: Sp.goS [] t
  | [], cur, t, _ => by simp [Sp.goS]
  | c :: a, cur, t, h => by
    have hc : c ≠ 32 := h c (by simp)
    have ih := goSp_cut a (cur ++ [c]) t (fun x hx => h x (by simp [hx]))
    rw [List.cons_append, Sp.goS, if_neg hc, ih]
    simp
theorem goSp_end : ∀ (a cur : List UInt8), freeS a → Sp.goS cur a = [cur ++ a]
  | [], cur, _ => by simp [Sp.goS]
  | c :: a, cur, h => by
    have hc : c ≠ 32 := h c (by simp)
    rw [Sp.goS, if_neg hc, goSp_end a (cur ++ [c]) (fun x hx => h x (by simp [hx]))]
    simp
theorem goSp_ne : ∀ (t cur : List UInt8), Sp.goS cur t ≠ []
  | [], cur => by simp [Sp.goS]
  | c :: t, cur => by
    rw [Sp.goS]; split
    · simp
    · exact goSp_ne t _
theorem goSp_more : ∀ (t cur : List UInt8) (x : List UInt8) (r : List (List UInt8)), Sp.goS cur t = x :: r → r ≠ [] → ∃ a u, t = a ++ 32 :: u ∧ x = cur ++ a ∧ freeS a ∧ Sp.goS [] u = r
  | [], cur, x, r, h, hr => by
    rw [Sp.goS] at h
    injection h with h1 h2
    exact absurd h2.symm hr
  | c :: t, cur, x, r, h, hr => by
    rw [Sp.goS] at h
    by_cases hc : c = 32
    · rw [if_pos hc] at h
      injection h with h1 h2
      exact ⟨[], t, by rw [hc]; rfl, by simp [h1], (fun y hy => by simp at hy), h2⟩
    · rw [if_neg hc] at h
      obtain ⟨a, u, e1, e2, e3, e4⟩ := goSp_more t _ x r h hr
      refine ⟨c :: a, u, by rw [e1]; rfl, by rw [e2]; simp, fun y hy => ?_, e4⟩
      rcases List.mem_cons.1 hy with hy | hy
      · rw [hy]; exact hc
      · exact e3 y hy
theorem goSp_last : ∀ (t cur : List UInt8) (x : List UInt8), Sp.goS cur t = [x] → x = cur ++ t ∧ freeS t
  | [], cur, x, h => by
    rw [Sp.goS] at h
    injection h with h1 h2
    exact ⟨by simp [h1], fun y hy => by simp at hy⟩
  | c :: t, cur, x, h => by
    rw [Sp.goS] at h
    by_cases hc : c = 32
    · rw [if_pos hc] at h
      injection h with h1 h2
      exact absurd h2 (goSp_ne _ _)
    · rw [if_neg hc] at h
      obtain ⟨e1, e2⟩ := goSp_last t _ x h
      refine ⟨by rw [e1]; simp, fun y hy => ?_⟩
      rcases List.mem_cons.1 hy with hy | hy
      · rw [hy]; exact hc
      · exact e2 y hy
theorem goSp_size : ∀ (t cur : List UInt8), ∀ p ∈ Sp.goS cur t, p.length ≤ cur.length + t.length
  | [], cur, p, hp => by rw [Sp.goS] at hp; rw [List.mem_singleton.1 hp]; simp
  | c :: t, cur, p, hp => by
    rw [Sp.goS] at hp
    by_cases hc : c = 32
    · rw [if_pos hc] at hp
      rcases List.mem_cons.1 hp with hp | hp
      · rw [hp]; omega
      · have := goSp_size t [] p hp; simp at this ⊢; omega
    · rw [if_neg hc] at hp
      have := goSp_size t _ p hp; simp at this ⊢; omega
theorem splitSp_size (s : ByteArray) : ∀ p ∈ Sp.splitB s, p.size ≤ s.size := fun p hp => by
  unfold Sp.splitB at hp
  obtain ⟨q, hq, rfl⟩ := List.mem_map.1 hp
  have := goSp_size _ _ q hq
  rw [mk_size, ← bl_length s]; simpa using this
def signL : List UInt8 := [32, 60, 32]
theorem splitSp_of {s a b : ByteArray} (h : bl s = bl a ++ signL ++ bl b) (ha : freeS (bl a)) (hb : freeS (bl b)) : Sp.splitB s = [a, mk [60], b] := by
  unfold Sp.splitB
  rw [h, show bl a ++ signL ++ bl b = bl a ++ 32 :: ([60] ++ 32 :: bl b) by simp [signL], goSp_cut _ _ _ ha, goSp_cut [60] [] _ (fun c hc => by rw [List.mem_singleton.1 hc]; decide), goSp_end _ _ hb]
  simp [mk_bl]
theorem splitSp_back {s a b : ByteArray} (h : Sp.splitB s = [a, mk [60], b]) : bl s = bl a ++ signL ++ bl b ∧ freeS (bl a) ∧ freeS (bl b) := by
  have h1 : Sp.goS [] (bl s) = [bl a, [60], bl b] := by
    have := congrArg (List.map bl) h
    unfold Sp.splitB at this
    rw [map_bl_mk] at this
    simpa [bl_mk] using this
  obtain ⟨x, u, e1, e2, e3, e4⟩ := goSp_more _ _ _ _ h1 (by simp)
  obtain ⟨y, v, f1, f2, f3, f4⟩ := goSp_more _ _ _ _ e4 (by simp)
  obtain ⟨g1, g2⟩ := goSp_last _ _ _ f4
  rw [List.nil_append] at e2 f2 g1
  refine ⟨?_, by rw [e2]; exact e3, by rw [g1]; exact g2⟩
  rw [e1, f1, ← e2, ← f2, ← g1]
  simp [signL]
theorem index_sign {s : List UInt8} {a b : List UInt8} (h : s = a ++ signL ++ b) (ha : freeS a) : Lib.index s signL = a.length := by
  refine Lib.index_first (by rw [h]; simp) ?_ (fun j hj => ?_)
  · unfold Lib.occAt; rw [h]; simp [signL]
  · unfold Lib.occAt
    rw [h, List.append_assoc, List.drop_append_of_le_length (by omega)]
    have hj2 : a.drop j = a[j] :: a.drop (j + 1) := List.drop_eq_getElem_cons hj
    rw [hj2, List.cons_append]
    have : a[j] ≠ 32 := ha _ (List.getElem_mem _)
    simp [signL, List.isPrefixOf, this.symm]
theorem cut_sign {s : List UInt8} {a b : List UInt8} (h : s = a ++ signL ++ b) (ha : freeS a) : Lib.cut s signL = (a, b, true) := by
  unfold Lib.cut
  rw [index_sign h ha, if_pos (by omega), h]
  have e1 : ((a.length : Int)).toNat = a.length := by omega
  rw [e1]
  have e2 : (a ++ signL ++ b).take a.length = a := by rw [List.append_assoc, List.take_left]
  have e3 : (a ++ signL ++ b).drop (a.length + signL.length) = b := by rw [show a.length + signL.length = (a ++ signL).length by simp, List.drop_left]
  rw [e2, e3]
theorem cut_cases (s : List UInt8) : ((Lib.cut s signL).2.2 = false ∧ (Lib.cut s signL).2.1 = []) ∨ s = (Lib.cut s signL).1 ++ signL ++ (Lib.cut s signL).2.1 := by
  rcases Lib.index_spec s signL with ⟨h, -⟩ | ⟨i, h, hi, ho, -⟩
  · refine Or.inl ?_
    unfold Lib.cut
    rw [h, if_neg (by omega)]
    exact ⟨rfl, rfl⟩
  · refine Or.inr ?_
    unfold Lib.cut
    rw [h, if_pos (by omega)]
    have e1 : ((i : Int)).toNat = i := by omega
    rw [e1]
    unfold Lib.occAt at ho
    obtain ⟨t, ht⟩ := List.isPrefixOf_iff_prefix.1 ho
    show s = s.take i ++ signL ++ s.drop (i + signL.length)
    rw [← List.drop_drop, ← ht, List.drop_left, List.append_assoc, ht, List.take_append_drop]

/-! patterns' texts have no space, and are not empty -/
theorem elem_noSpace {s : ByteArray} {b : Bool} (h : elemP s b = true) : freeS (bl s) := by
  rcases elemP_iff.1 h with h | h | h | ⟨h, _⟩
  · intro c hc e
    obtain ⟨i, hi, rfl⟩ := List.getElem_of_mem hc
    rw [bl_length] at hi
    have h1 := (validP_iff.1 h).2.2 i hi hi
    rw [bl_get s i hi] at e
    rw [e] at h1
    simp [okR] at h1
  · subst h
    exact fun c hc => by simp [bl, starB] at hc; rw [hc]; decide
  · obtain ⟨h2, h0, h1, h3⟩ := letterP_iff.1 h
    intro c hc e
    obtain ⟨i, hi, rfl⟩ := List.getElem_of_mem hc
    rw [bl_length] at hi
    rw [bl_get s i hi] at e
    have : i = 0 ∨ i = 1 := by omega
    rcases this with rfl | rfl
    · rw [e] at h0; exact absurd h0 (by decide)
    · rw [e] at h1; exact absurd h1 (by decide)
  · subst h
    exact fun c hc => by simp [bl, star2B] at hc; rw [hc]; decide
theorem freeS_append {a b : List UInt8} (h : freeS a) (g : freeS b) : freeS (a ++ b) := fun c hc => (List.mem_append.1 hc).elim (h c) (g c)
theorem join_noSpace : ∀ (L : List (List UInt8)), (∀ p ∈ L, freeS p) → freeS (Lib.join L [47])
  | [], _ => fun c hc => by simp [Lib.join_nil] at hc
  | x :: r, h => by
    rw [Lib.join_cons]
    refine freeS_append (h x (by simp)) ?_
    unfold Lib.joinTail
    intro c hc
    obtain ⟨p, hp, hc⟩ := List.mem_flatten.1 hc
    obtain ⟨q, hq, rfl⟩ := List.mem_map.1 hp
    rcases List.mem_append.1 hc with hc | hc
    · rw [List.mem_singleton.1 hc]; decide
    · exact h q (by simp [hq]) c hc
theorem fmt_noSpace {l : List ByteArray} (h : validPat l = true) : freeS (bl (fmtS l)) := by
  unfold fmtS fmtL
  rw [bl_mk]
  intro c hc
  rcases List.mem_cons.1 hc with hc | hc
  · rw [hc]; decide
  · refine join_noSpace _ (fun p hp => ?_) c hc
    obtain ⟨q, hq, rfl⟩ := List.mem_map.1 hp
    obtain ⟨j, hj, rfl⟩ := List.getElem_of_mem hq
    have := (validPat_iff.1 h).2 j hj
    rw [nth_eq hj] at this
    exact elem_noSpace this
theorem pp_noSpace {s : ByteArray} (h : ppOk s = true) : freeS (bl s) := by
  obtain ⟨h1, h2⟩ := ppOk_iff.1 h
  rw [← h2]; exact fmt_noSpace h1
theorem pp_nonempty {s : ByteArray} (h : ppOk s = true) : bl s ≠ [] := by
  obtain ⟨h1, h2⟩ := ppOk_iff.1 h
  rw [← h2]
  unfold fmtS fmtL
  rw [bl_mk]; simp

/-- What the pieces are asked. -/
def prAB (a b : ByteArray) : Bool := ppOk a && ppOk b && validR (ppN a, ppN b)
def prOk (s : ByteArray) : Bool :=
  match Sp.splitB s with
  | [a, c, b] => decide (c = mk [60]) && prAB a b
  | _ => false
def prR (s : ByteArray) : Rlt :=
  match Sp.splitB s with
  | [a, c, b] => if (decide (c = mk [60]) && prAB a b) = true then (ppN a, ppN b) else ([], [])
  | _ => ([], [])
theorem pr_three {s a c b : ByteArray} (h : Sp.splitB s = [a, c, b]) : prOk s = (decide (c = mk [60]) && prAB a b) ∧ prR s = if (decide (c = mk [60]) && prAB a b) = true then (ppN a, ppN b) else ([], []) := by
  unfold prOk prR; rw [h]; exact ⟨rfl, rfl⟩
theorem pr_other {s : ByteArray} (h : (Sp.splitB s).length ≠ 3) : prOk s = false ∧ prR s = ([], []) := by
  unfold prOk prR
  rcases hs : Sp.splitB s with _ | ⟨a, _ | ⟨b, _ | ⟨c, _ | ⟨d, r⟩⟩⟩⟩
  · exact ⟨rfl, rfl⟩
  · exact ⟨rfl, rfl⟩
  · exact ⟨rfl, rfl⟩
  · rw [hs] at h; exact absurd rfl h
  · exact ⟨rfl, rfl⟩
theorem prOk_iff {s : ByteArray} : prOk s = true ↔ ∃ a b, Sp.splitB s = [a, mk [60], b] ∧ prAB a b = true := by
  constructor
  · intro h
    unfold prOk at h
    split at h
    · rename_i a c b hs
      have h2 := (Bool.and_eq_true _ _).mp h
      exact ⟨a, b, by rw [hs, of_decide_eq_true h2.1], h2.2⟩
    · cases h
  · rintro ⟨a, b, hs, h⟩
    rw [(pr_three hs).1, h]; simp
/-- The program's way: the text is cut. -/
theorem pr_cut (s : ByteArray) : prAB (mk (Lib.cut (bl s) signL).1) (mk (Lib.cut (bl s) signL).2.1) = prOk s ∧ (prOk s = true → prR s = (ppN (mk (Lib.cut (bl s) signL).1), ppN (mk (Lib.cut (bl s) signL).2.1))) := by
  have back : ∀ {a b : ByteArray}, Sp.splitB s = [a, mk [60], b] → mk (Lib.cut (bl s) signL).1 = a ∧ mk (Lib.cut (bl s) signL).2.1 = b := fun {a b} h => by
    obtain ⟨h1, h2, h3⟩ := splitSp_back h
    rw [cut_sign h1 h2]
    exact ⟨mk_bl a, mk_bl b⟩
  have fwd : prAB (mk (Lib.cut (bl s) signL).1) (mk (Lib.cut (bl s) signL).2.1) = true → prOk s = true := fun h => by
    have h2 := (Bool.and_eq_true _ _).mp ((Bool.and_eq_true _ _).mp h).1
    rcases cut_cases (bl s) with ⟨-, h3⟩ | h3
    · exact absurd (by rw [h3, bl_mk]) (pp_nonempty h2.2)
    · refine prOk_iff.2 ⟨_, _, splitSp_of (by rw [bl_mk, bl_mk]; exact h3) (pp_noSpace h2.1) (pp_noSpace h2.2), h⟩
  refine ⟨?_, fun h => ?_⟩
  · cases hp : prOk s with
    | true =>
      obtain ⟨a, b, hs, h⟩ := prOk_iff.1 hp
      obtain ⟨e1, e2⟩ := back hs
      rw [e1, e2]; exact h
    | false =>
      cases h : prAB (mk (Lib.cut (bl s) signL).1) (mk (Lib.cut (bl s) signL).2.1) with
      | false => rfl
      | true => rw [fwd h] at hp; cases hp
  · obtain ⟨a, b, hs, h2⟩ := prOk_iff.1 h
    obtain ⟨e1, e2⟩ := back hs
    rw [(pr_three hs).2, h2, e1, e2]; simp
theorem prR_no {s : ByteArray} (h : prOk s = false) : prR s = ([], []) := by
  by_cases hl : (Sp.splitB s).length = 3
  · rcases hs : Sp.splitB s with _ | ⟨a, _ | ⟨c, _ | ⟨b, _ | ⟨d, r⟩⟩⟩⟩ <;> (try (rw [hs] at hl; simp at hl))
    have := pr_three hs
    rw [this.1] at h
    rw [this.2, h]; rfl
  · exact (pr_other hl).2
theorem prR_len (s : ByteArray) : adRl (prR s) ≤ 12 := by
  cases h : prOk s with
  | false => rw [prR_no h]; decide
  | true =>
    rw [(pr_cut s).2 h]
    have h1 := ppN_len (mk (Lib.cut (bl s) signL).1)
    have h2 := ppN_len (mk (Lib.cut (bl s) signL).2.1)
    show (ppN _).length + (ppN _).length ≤ 12
    omega
theorem cut_len (s : ByteArray) : (mk (Lib.cut (bl s) signL).1).size ≤ s.size ∧ (mk (Lib.cut (bl s) signL).2.1).size ≤ s.size := by
  rw [mk_size, mk_size, ← bl_length]
  unfold Lib.cut
  split
  · exact ⟨by simp; omega, by simp⟩
  · exact ⟨Nat.le_refl _, by simp⟩
theorem elem_size {s : ByteArray} {b : Bool} (h : elemP s b = true) : s.size ≤ 8 := by
  rcases elemP_iff.1 h with h | h | h | ⟨h, _⟩
  · exact (validP_iff.1 h).2.1
  · subst h; decide
  · have := (letterP_iff.1 h).1; omega
  · subst h; decide
theorem bulk_small : ∀ (l : List ByteArray), (∀ s ∈ l, s.size ≤ 8) → bulk l ≤ 9 * l.length
  | [], _ => by simp [bulk_nil]
  | x :: r, h => by
    have h1 := h x (by simp)
    have h2 := bulk_small r (fun s hs => h s (by simp [hs]))
    rw [bulk_cons, List.length_cons]; omega
theorem ppN_bulk (s : ByteArray) : bulk (ppN s) ≤ 54 := by
  have hv := validPat_iff.1 (pt_valid_pN s)
  have := bulk_small (ppN s) (fun x hx => by
    obtain ⟨j, hj, rfl⟩ := List.getElem_of_mem hx
    have := hv.2 j hj
    rw [nth_eq hj] at this
    exact elem_size this)
  omega
theorem wt_pp (a b : ByteArray) : wtRl (ppN a, ppN b) ≤ 9000000 := by
  have h1 := ppN_bulk a; have h2 := ppN_bulk b
  show bulk (ppN a) + bulk (ppN b) ≤ 9000000
  omega
end Go.Proofs.Ytkojeajjappchaa.Row
