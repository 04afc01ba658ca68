/- Plain mathematics of names and their texts, no program in sight: a text is split at its slashes; joined again it is the text; a joined list of parts without slashes is split into the parts; runes and bytes. No conditions. -/
import Derived.Test.YtkojeajjappchaaValid
import Derived.Lib.Join
namespace Go.Proofs.Ytkojeajjappchaa.Row
open Go.ChangeShapes Go.WideShapes Go.ChangeAt Go.RowKit Go.Instr
set_option linter.unusedVariables false
set_option maxRecDepth 100000

def bl (s : ByteArray) : List UInt8 := s.data.toList
def mk (l : List UInt8) : ByteArray := ⟨l.toArray⟩
theorem mk_bl (s : ByteArray) : mk (bl s) = s := by
  show ByteArray.mk (s.data.toList.toArray) = s
  rw [Array.toArray_toList]
theorem bl_mk (l : List UInt8) : bl (mk l) = l := by
  show (l.toArray).toList = l
  rfl
theorem bl_length (s : ByteArray) : (bl s).length = s.size := by
  show s.data.toList.length = s.data.size
  exact Array.length_toList
theorem bl_inj {a b : ByteArray} (h : bl a = bl b) : a = b := by rw [← mk_bl a, ← mk_bl b, h]
theorem bl_get (s : ByteArray) (i : Nat) (h : i < s.size) : (bl s)[i]'(by rw [bl_length]; exact h) = s[i]'h := by
  simp [bl]; rfl
theorem bl_append (a b : ByteArray) : bl (a ++ b) = bl a ++ bl b := by
  unfold bl
  simp only [ByteArray.data_append, Array.toList_append]
theorem mk_append (a b : List UInt8) : mk a ++ mk b = mk (a ++ b) := by apply bl_inj; rw [bl_append, bl_mk, bl_mk, bl_mk]
theorem mk_size (l : List UInt8) : (mk l).size = l.length := by
  show l.toArray.size = l.length
  exact List.size_toArray

/-! ### splitting at slashes -/
def goS (cur : List UInt8) : List UInt8 → List (List UInt8)
  | [] => [cur]
  | c :: t => if c = 47 then cur :: goS [] t else goS (cur ++ [c]) t
theorem goS_ne : ∀ (t cur : List UInt8), goS cur t ≠ []
  | [], cur => by simp [goS]
  | c :: t, cur => by
    unfold goS; split
    · simp
    · exact goS_ne t _
theorem goS_free : ∀ (p cur rest : List UInt8), (∀ c ∈ p, c ≠ 47) → goS cur (p ++ rest) = goS (cur ++ p) rest
  | [], cur, rest, _ => by simp
  | c :: p, cur, rest, h => by
    have hc := h c (by simp)
    rw [List.cons_append, goS, if_neg hc, goS_free p _ rest (fun d hd => h d (by simp [hd]))]
    simp
theorem join_cons2 (x y : List UInt8) (r : List (List UInt8)) : Lib.join (x :: y :: r) [47] = x ++ 47 :: Lib.join (y :: r) [47] := by
  rw [Lib.join_cons, Lib.join_cons]
  simp [Lib.joinTail]
/-- Joined again, the pieces are the text. -/
theorem join_goS : ∀ (t cur : List UInt8), Lib.join (goS cur t) [47] = cur ++ t
  | [], cur => by simp [goS, Lib.join_one]
  | c :: t, cur => by
    unfold goS; split
    · rename_i h
      obtain ⟨y, r, hy⟩ : ∃ y r, goS [] t = y :: r := by
        cases hg : goS [] t with
        | nil => exact absurd hg (goS_ne t [])
        | cons y r => exact ⟨y, r, rfl⟩
      have := join_goS t []
      rw [hy] at this ⊢
      rw [join_cons2, this, h]; simp
    · rw [join_goS t]; simp
/-- Parts without slashes, joined, are split into the parts. -/
theorem goS_join : ∀ (P : List (List UInt8)), P ≠ [] → (∀ p ∈ P, ∀ c ∈ p, c ≠ 47) → goS [] (Lib.join P [47]) = P
  | [], h, _ => absurd rfl h
  | [x], _, hf => by
    have := goS_free x [] [] (hf x (by simp))
    rw [List.append_nil] at this
    rw [Lib.join_one, this]; simp [goS]
  | x :: y :: r, _, hf => by
    rw [join_cons2, goS_free x [] _ (hf x (by simp)), goS, if_pos rfl, goS_join (y :: r) (by simp) (fun p hp => hf p (by simp [hp]))]
    simp

/-! ### texts of names -/
def fmtL (l : List ByteArray) : List UInt8 := 47 :: Lib.join (l.map bl) [47]
def fmtS (l : List ByteArray) : ByteArray := mk (fmtL l)
def splitB (s : ByteArray) : List ByteArray := (goS [] (bl s)).map mk
def fullB (s : ByteArray) : Bool := decide (s.size ≠ 0)
def partsB (s : ByteArray) : List ByteArray := (splitB s).filter fullB
def pOk (s : ByteArray) : Bool := validN (partsB s) && decide (fmtS (partsB s) = s)
def pN (s : ByteArray) : List ByteArray := if pOk s = true then partsB s else []
theorem map_bl_mk (L : List (List UInt8)) : (L.map mk).map bl = L := by
  rw [List.map_map]
  have : (bl ∘ mk) = id := funext fun l => bl_mk l
  rw [this, List.map_id]
theorem map_mk_bl (L : List ByteArray) : (L.map bl).map mk = L := by
  rw [List.map_map]
  have : (mk ∘ bl) = id := funext fun l => mk_bl l
  rw [this, List.map_id]

theorem valid_free {p : ByteArray} (h : validP p = true) : ∀ c ∈ bl p, c ≠ 47 := by
  intro c hc e
  obtain ⟨i, hi, rfl⟩ := List.getElem_of_mem hc
  rw [bl_length] at hi
  have h1 := (validP_iff.1 h).2.2 i hi hi
  rw [bl_get p i hi] at e
  rw [e] at h1
  simp [okR] at h1
theorem valid_full {p : ByteArray} (h : validP p = true) : fullB p = true := by
  have := (validP_iff.1 h).1
  unfold fullB; exact decide_eq_true (by omega)
theorem filter_valid {l : List ByteArray} (h : validN l = true) : l.filter fullB = l := by
  rw [List.filter_eq_self]
  exact fun p hp => valid_full ((validN_iff.1 h).2 p hp)
theorem free_of_valid {l : List ByteArray} (h : validN l = true) : ∀ p ∈ l.map bl, ∀ c ∈ p, c ≠ 47 := by
  intro p hp
  obtain ⟨q, hq, rfl⟩ := List.mem_map.1 hp
  exact valid_free ((validN_iff.1 h).2 q hq)

theorem fmtS_nil : fmtS [] = mk [47] := by simp [fmtS, fmtL, Lib.join_nil]
/-- The text of a right name that has parts is split into the empty piece and the parts. -/
theorem split_fmt {l : List ByteArray} (h : validN l = true) (hl : l ≠ []) : splitB (fmtS l) = mk [] :: l := by
  unfold splitB fmtS fmtL
  rw [bl_mk, goS, if_pos rfl, goS_join (l.map bl) (by simpa using hl) (free_of_valid h), List.map_cons, map_mk_bl]
theorem parts_fmt {l : List ByteArray} (h : validN l = true) : partsB (fmtS l) = l := by
  by_cases hl : l = []
  · subst hl
    rw [fmtS_nil]
    unfold partsB splitB
    rw [bl_mk]
    simp [goS, fullB, mk_size]
  · unfold partsB
    rw [split_fmt h hl, List.filter_cons_of_neg (by simp [fullB, mk_size]), filter_valid h]
theorem pOk_fmt {l : List ByteArray} (h : validN l = true) : pOk (fmtS l) = true := by
  unfold pOk; rw [parts_fmt h, h]; simp
theorem pN_fmt {l : List ByteArray} (h : validN l = true) : pN (fmtS l) = l := by
  unfold pN; rw [if_pos (pOk_fmt h), parts_fmt h]
theorem pOk_iff {s : ByteArray} : pOk s = true ↔ validN (partsB s) = true ∧ fmtS (partsB s) = s := by unfold pOk; simp
theorem pN_yes {s : ByteArray} (h : pOk s = true) : pN s = partsB s := if_pos h
theorem pN_no {s : ByteArray} (h : pOk s = false) : pN s = [] := if_neg (by simp [h])
theorem fmt_pN {s : ByteArray} (h : pOk s = true) : fmtS (pN s) = s := by rw [pN_yes h]; exact (pOk_iff.1 h).2
theorem valid_pN (s : ByteArray) : validN (pN s) = true := by
  cases h : pOk s with
  | true => rw [pN_yes h]; exact (pOk_iff.1 h).1
  | false => rw [pN_no h]; decide

/-- The reference model's way: what the pieces are asked. -/
theorem pOk_slash : pOk (mk [47]) = true ∧ pN (mk [47]) = [] := by
  have h : validN [] = true := by decide
  rw [← fmtS_nil]
  exact ⟨pOk_fmt h, pN_fmt h⟩
theorem split_yes {s : ByteArray} {rest : List ByteArray} (h : splitB s = mk [] :: rest) (hr : rest ≠ []) (hv : validN rest = true) : pOk s = true ∧ pN s = rest := by
  have hs : fmtS rest = s := by
    apply bl_inj
    have h1 : goS [] (bl s) = [] :: rest.map bl := by
      have := congrArg (List.map bl) h
      unfold splitB at this
      rw [map_bl_mk, List.map_cons, bl_mk] at this
      exact this
    have h2 := join_goS (bl s) []
    rw [h1] at h2
    obtain ⟨y, r, rfl⟩ : ∃ y r, rest = y :: r := by
      cases rest with
      | nil => exact absurd rfl hr
      | cons y r => exact ⟨y, r, rfl⟩
    rw [List.map_cons, join_cons2, ← List.map_cons] at h2
    unfold fmtS fmtL
    rw [bl_mk]
    exact h2
  rw [← hs]
  exact ⟨pOk_fmt hv, pN_fmt hv⟩
theorem split_no {s : ByteArray} (h47 : s ≠ mk [47]) (h : ∀ rest, splitB s = mk [] :: rest → rest ≠ [] → validN rest = false) : pOk s = false := by
  cases hp : pOk s with
  | false => rfl
  | true =>
    obtain ⟨h1, h2⟩ := pOk_iff.1 hp
    by_cases he : partsB s = []
    · rw [he, fmtS_nil] at h2
      exact absurd h2.symm h47
    · have h3 := split_fmt h1 he
      rw [h2] at h3
      have h4 := h _ h3 he
      rw [h1] at h4; cases h4

/-! ### runs of bytes and runes -/
def seg (s : ByteArray) (f i : Nat) : List UInt8 := ((bl s).drop f).take (i - f)
def rest (s : ByteArray) (i : Nat) : List UInt8 := (bl s).drop i
theorem rest_end (s : ByteArray) : rest s s.size = [] := by unfold rest; rw [← bl_length]; simp
theorem rest_cons (s : ByteArray) {i : Nat} (h : i < s.size) : rest s i = s[i]'h :: rest s (i + 1) := by
  unfold rest
  rw [List.drop_eq_getElem_cons (by rw [bl_length]; exact h), bl_get s i h]
theorem seg_self (s : ByteArray) (i : Nat) : seg s i i = [] := by simp [seg]
theorem seg_succ (s : ByteArray) {f i : Nat} (hf : f ≤ i) (h : i < s.size) : seg s f (i + 1) = seg s f i ++ [s[i]'h] := by
  unfold seg
  have e : i + 1 - f = (i - f) + 1 := by omega
  rw [e, List.take_add_one, List.getElem?_drop, show f + (i - f) = i by omega, List.getElem?_eq_getElem (by rw [bl_length]; exact h), bl_get s i h]
  rfl
theorem seg_length (s : ByteArray) {f i : Nat} (hf : f ≤ i) (h : i ≤ s.size) : (seg s f i).length = i - f := by
  unfold seg; rw [List.length_take, List.length_drop, bl_length]; omega
theorem extract_seg (s : ByteArray) (f i : Nat) : s.extract f i = mk (seg s f i) := by
  conv => lhs; rw [← mk_bl s]
  exact ByteArray.extract_mk (bl s) f i
theorem goS_slash (s : ByteArray) {f i : Nat} (h : i < s.size) (hc : s[i]'h = 47) : goS (seg s f i) (rest s i) = seg s f i :: goS (seg s (i + 1) (i + 1)) (rest s (i + 1)) := by
  rw [rest_cons s h, goS, if_pos hc, seg_self]
theorem goS_byte (s : ByteArray) {f i : Nat} (hf : f ≤ i) (h : i < s.size) (hc : s[i]'h ≠ 47) : goS (seg s f i) (rest s i) = goS (seg s f (i + 1)) (rest s (i + 1)) := by
  rw [rest_cons s h, goS, if_neg hc, seg_succ s hf h]
theorem goS_end (s : ByteArray) (f : Nat) : goS (seg s f s.size) (rest s s.size) = [seg s f s.size] := by rw [rest_end]; rfl
theorem goS_bytes (s : ByteArray) {f i : Nat} (hf : f ≤ i) : ∀ m, (hm : i + m ≤ s.size) → (∀ j (hj : j < m), s[i + j]'(by omega) ≠ 47) → goS (seg s f i) (rest s i) = goS (seg s f (i + m)) (rest s (i + m))
  | 0, _, _ => rfl
  | m + 1, hm, hc => by
    rw [goS_bytes s hf m (by omega) (fun j hj => hc j (by omega)), goS_byte s (by omega) (by omega) (hc m (by omega))]
    rfl

theorem decode_cont (s : ByteArray) (pos j : Nat) (h1 : 1 ≤ j) (h2 : j < (Utf8.decode s pos).2) : ∃ h : pos + j < s.size, 128 ≤ (s[pos + j]'h).toNat := by
  have key : ∀ k, (pos + k < s.size ∧ (s.get! (pos + k)).toNat / 64 = 2) → ∃ h : pos + k < s.size, 128 ≤ (s[pos + k]'h).toNat := by
    rintro k ⟨hk, hq⟩
    refine ⟨hk, ?_⟩
    have e := get_at s (pos + k) hk
    rw [Nat.add_zero] at e
    rw [← e]; omega
  simp only [Utf8.decode] at h2
  repeat' split at h2
  all_goals (try simp only [Bool.and_eq_true, decide_eq_true_eq, beq_iff_eq] at *)
  all_goals (try (exfalso; omega))
  all_goals
    have hj : j = 1 ∨ j = 2 ∨ j = 3 := by omega
    rcases hj with rfl | rfl | rfl
  all_goals first
    | (exfalso; omega)
    | (refine key _ ⟨?_, ?_⟩ <;> omega)

end Go.Proofs.Ytkojeajjappchaa.Row
