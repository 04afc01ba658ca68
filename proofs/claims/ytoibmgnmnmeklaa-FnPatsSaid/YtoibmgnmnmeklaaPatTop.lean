/- Plain mathematics of patterns, and the contracts in the words of the drawn law: what matches keeps the bindings that it was given; an instance of a pattern matches it; a parsed pattern has its text. No conditions but that lengths fit. -/
import Derived.Test.YtoibmgnmnmeklaaDrawPats
import Derived.Test.YtoibmgnmnmeklaaMatch3
import Derived.Test.YtoibmgnmnmeklaaInst2
import Derived.Test.YtoibmgnmnmeklaaBindLaw
namespace Go.Proofs.Ytoibmgnmnmeklaa.Row
open Go.ChangeShapes Go.WideShapes Go.ChangeAt Go.RowKit Go.Instr
set_option linter.unusedVariables false
set_option maxRecDepth 100000

theorem stepM_pre {s t : ByteArray} {l m : List (ByteArray × ByteArray)} (h : stepM s t l = some m) : ∃ r, m = l ++ r := by
  unfold stepM at h
  repeat' split at h
  all_goals first | (cases h; exact ⟨[], (List.append_nil _).symm⟩) | (cases h; exact ⟨_, rfl⟩) | cases h
theorem matchL_pre : ∀ (p q : List ByteArray) (l m : List (ByteArray × ByteArray)), matchL p q l = some m → ∃ r, m = l ++ r
  | [], [], l, m, h => by simp [matchL] at h; exact ⟨[], by simp [h]⟩
  | [], _ :: _, l, m, h => by simp [matchL] at h
  | s :: ps, [], l, m, h => by
    unfold matchL at h
    split at h
    · cases h; exact ⟨[], by simp⟩
    · cases h
  | s :: ps, t :: ts, l, m, h => by
    unfold matchL at h
    split at h
    · cases h; exact ⟨[], by simp⟩
    · split at h
      · cases h
      · rename_i hs
        obtain ⟨r1, rfl⟩ := stepM_pre hs
        obtain ⟨r2, rfl⟩ := matchL_pre ps ts _ m h
        exact ⟨r1 ++ r2, by simp⟩
/-- What matches keeps the bindings that it was given, at the head. -/
theorem mOut_pre {p q : List ByteArray} {l : List (ByteArray × ByteArray)} (h : mOk p q l = true) : l.length ≤ (mOut p q l).length ∧ (mOut p q l).take l.length = l := by
  unfold mOk at h
  unfold mOut
  cases hm : matchB p q l with
  | none => rw [hm] at h; cases h
  | some m =>
    unfold matchB at hm
    split at hm
    · obtain ⟨r, rfl⟩ := matchL_pre p q l m hm
      simp
    · cases hm
theorem matchL_inst : ∀ (p : List ByteArray) (l : List (ByteArray × ByteArray)), (∀ s ∈ p, (validP s = true ∧ letterP s = false) ∨ (letterP s = true ∧ fi l s < l.length)) → matchL p (p.map (inst1 l)) l = some l
  | [], l, _ => rfl
  | s :: ps, l, h => by
    have ih := matchL_inst ps l (fun x hx => h x (List.mem_cons_of_mem _ hx))
    rw [List.map_cons]
    unfold matchL
    rcases h s (List.mem_cons_self ..) with ⟨hv, hl⟩ | ⟨hl, hf⟩
    · have e : inst1 l s = s := by unfold inst1; rw [if_neg (by rw [hl]; simp)]
      rw [if_neg (valid_ne hv).2, e, stepM_lit hv, if_pos rfl]
      exact ih
    · have e : inst1 l s = bvB l s := by unfold inst1; rw [if_pos hl]
      rw [if_neg (letter_ne hl).2, e, stepM_var hl, if_pos hf, if_pos (by unfold bvB; rw [if_pos hf])]
      exact ih
/-- An instance of a pattern matches it, with the bindings that made it. -/
theorem inst_match {p : List ByteArray} {l : List (ByteArray × ByteArray)} (h : instOk p l = true) : mOk p (instN p l) l = true := by
  have hn := instN_yes h
  have hv := instN_valid p l
  unfold instOk at h
  obtain ⟨h1, h2⟩ := (Bool.and_eq_true _ _).mp h
  unfold mOk matchB
  rw [if_pos ⟨h1, hv⟩, hn, matchL_inst p l (fun s hs => ?_)]
  · rfl
  · have hx := (validN_iff.1 h2).2 _ (List.mem_map.2 ⟨s, hs, rfl⟩)
    obtain ⟨j, hj, rfl⟩ := List.getElem_of_mem hs
    have he := (validPat_iff.1 h1).2 j hj
    rw [nth_eq hj] at he
    rcases elemP_iff.1 he with h | h | h | ⟨h, _⟩
    · exact Or.inl ⟨h, valid_letterP h⟩
    · rw [h] at hx; unfold inst1 at hx; rw [if_neg (by rw [star_letterP]; simp), star_validP] at hx; cases hx
    · refine Or.inr ⟨h, ?_⟩
      unfold inst1 at hx
      rw [if_pos h] at hx
      unfold bvB at hx
      split at hx
      · assumption
      · rw [empty_validP] at hx; cases hx
    · rw [h] at hx; unfold inst1 at hx; rw [if_neg (by rw [star2_letterP]; simp), star2_validP] at hx; cases hx
theorem bulk_ppN (s : ByteArray) : bulk (ppN s) ≤ s.size + 1 := by
  cases h : ppOk s with
  | true => rw [ppN_yes h]; exact bulk_parts s
  | false => rw [ppN_no h, bulk_nil]; omega
theorem bulk_instN (p : List ByteArray) (l : List (ByteArray × ByteArray)) : bulk (instN p l) ≤ 60 := by
  have hv := validN_iff.1 (instN_valid p l)
  have key : ∀ m : List ByteArray, (∀ x ∈ m, validP x = true) → bulk m ≤ 9 * m.length := by
    intro m
    induction m with
    | nil => intro _; simp [bulk_nil]
    | cons a r ih =>
      intro h
      have h1 := ih (fun x hx => h x (List.mem_cons_of_mem _ hx))
      have h2 := (validP_iff.1 (h a (List.mem_cons_self ..))).2.1
      rw [bulk_cons, List.length_cons]; omega
  have := key _ hv.2
  omega

theorem HoldsK.take {α : Type} {enc : α → List Value} {sz : Nat} (hs : Sz enc sz) {w : World} {x : Option Addr} {n c : Nat} {l : List α} (h : HoldsK enc sz w (.slice x n c) l) {k : Nat} (hk : k ≤ l.length) : HoldsK enc sz w (.slice x k c) (l.take k) := by
  obtain ⟨x', cap', hv, hc, hh⟩ := h
  cases hv
  have hl : (l.take k).length = k := by rw [List.length_take]; omega
  refine ⟨x, c, by rw [hl], by rw [hl]; omega, ?_⟩
  rcases hh with h1 | ⟨b, off, hx, h2⟩
  · left; rw [h1]; simp
  · refine Or.inr ⟨b, off, hx, fun j hj => ?_⟩
    rw [hl] at hj
    obtain ⟨u, h3, h4⟩ := h2 j (Nat.lt_of_lt_of_le hj (Nat.mul_le_mul_right _ hk))
    refine ⟨u, ?_, h4⟩
    rw [← h3]
    conv => rhs; rw [← List.take_append_drop k l, flat_append]
    rw [List.getElem?_append_left (by rw [flat_length hs, hl]; exact hj)]

theorem capLe {α : Type} {enc : α → List Value} {sz : Nat} {w : World} {x : Option Addr} {n c : Nat} {l : List α} (h : HoldsK enc sz w (.slice x n c) l) : n ≤ c := by
  obtain ⟨x', cap', hv, hc, hh⟩ := h
  cases hv; exact hc

theorem sameBinds_len (x y : Option Addr) (n m cx cy : Nat) (w : World) (h : (((n : Nat) : Int) != ((m : Nat) : Int)) = true) :
    Calls Try.prog 23 #[.slice x n cx, .slice y m cy] w fun e w' => e = .returned (.bool false) ∧ w = w' := by
  go_enter Try.func23, Try.ntmps23
  go_wp2
  go_ret
  exact ⟨rfl, rfl⟩

set_option maxHeartbeats 1000000 in
/-- The same bindings in two slices: the law's comparison says so. -/
theorem sameBindsT (v u : Value) (l : List (ByteArray × ByteArray)) (w : World) (h : HoldsK encBd 2 w v l) (g : HoldsK encBd 2 w u l) (hl : l.length ≤ 140737488351232) :
    Calls Try.prog 23 #[v, u] w fun e w' => e = .returned (.bool true) ∧ Below w.heap.size w w' := by
  obtain ⟨x, n, cx, rfl, hn, hcx, hh⟩ := h.shapeN
  obtain ⟨y, n2, cy, rfl, hn2, hcy, hg⟩ := g.shapeN
  obtain rfl : n2 = n := hn2.trans hn.symm
  rw [← hn] at hl
  have HN := Lib.hid hn; have HH := Lib.hid hh; have HG := Lib.hid hg
  have htest : (((n2 : Nat) : Int) != ((n2 : Nat) : Int)) = false := by simp
  clear hn hn2 h hh g hg
  go_enter Try.func23, Try.ntmps23
  go_wp2
  go_loopw [5] (fun i wr => ∃ k nq : Nat, k ≤ n2 ∧ i = .int .i64 k ∧ wr = w.drewN nq) (fun i _ => n2 - (intOf i).toNat)
  case atStart => exact ⟨0, 0, Nat.zero_le _, rfl, rfl⟩
  case round =>
    obtain ⟨k, nq, hk, rfl, rfl⟩ := hrel
    by_cases hlt : k < n2
    · have hlen := HN.out
      obtain ⟨b, off, rfl, hc1, hc2⟩ := bdAt HH.out (k := k) (by omega)
      obtain ⟨b', off', rfl, hd1, hd2⟩ := bdAt HG.out (k := k) (by omega)
      clear hlen
      have e1 := tl_eq (rfl : (nth l k).1 = (nth l k).1)
      have e2 := tl_eq (rfl : (nth l k).2 = (nth l k).2)
      go_wp2_with fail
      go_quiet (fail)
      go_wp2_with fail
      go_roundw
      case rel => exact ⟨k + 1, _, by omega, by go_num, rfl⟩
      case measure => simp [intOf]; omega
    · obtain rfl : k = n2 := by omega
      clear hlt
      go_wp2
      go_ret
      exact ⟨rfl, below_drewN (Below.refl _ _) _⟩

theorem sameTextsT (v u : Value) (l : List ByteArray) (w : World) (h : Holds Value.string w v l) (g : Holds Value.string w u l) (hl : l.length ≤ 140737488351232) :
    Calls Try.prog 26 #[v, u] w fun e w' => e = .returned (.bool true) ∧ Below w.heap.size w w' := by
  have := sameTexts v u l l w h g hl hl
  rwa [eqB_self] at this
theorem fmtPV {v : Value} {l : List ByteArray} {w : World} (s : ByteArray) (h : Holds Value.string w v l) (hl : bulk l ≤ 100000000) (hs : fmtS l = s) :
    Calls Try.prog 30 #[.agg #[v]] w fun e w' => e = .returned (.string s) ∧ Below w.heap.size w w' := hs ▸ implFormatPattern v l w h hl
theorem validPV {v : Value} {l : List ByteArray} {w : World} (b : Bool) (h : Holds Value.string w v l) (hl : bulk l ≤ 100000000) (hs : validPat l = b) :
    Calls Try.prog 32 #[.agg #[v]] w fun e w' => e = .returned (.bool b) ∧ Below w.heap.size w w' := hs ▸ implValidPattern v l w h hl
theorem matchV {vp vq v : Value} {p q : List ByteArray} {l : List (ByteArray × ByteArray)} {w : World} (b : Bool) (hp : Holds Value.string w vp p) (hq : Holds Value.string w vq q) (hv : HoldsK encBd 2 w v l) (hpb : bulk p ≤ 100000000) (hqb : bulk q ≤ 100000000) (hl : l.length ≤ 2000000) (hb : mOk p q l = b) :
    Calls Try.prog 13 #[.agg #[vp], .agg #[vq], v] w fun e w' => ∃ v', e = .returned (.tuple #[v', .bool b]) ∧ OwnK 80 encBd 2 w.heap.size w' v' (mOut p q l) ∧ Below w.heap.size w w' := hb ▸ implMatchX vp vq v p q l w hp hq hv hpb hqb hl
end Go.Proofs.Ytoibmgnmnmeklaa.Row
