/- Contracts and mathematics, joined: NameMath, Split, ParseN, DrawT0. No conditions but those that each states. -/
import Derived.Test.YtbooamnlocobfaaGreatB2
import Derived.Lib.Join
import Derived.Lib.OthersKept
import Derived.Test.YtbooamnlocobfaaGreatB8
import Derived.Test.YtbooamnlocobfaaGreatB6
/- Plain mathematics of names and their texts, no program in sight: a text is split at its slashes; joined again it is the text; a joined list of parts without slashes is split into the parts; runes and bytes. No conditions. -/
namespace Go.Proofs.YtbooamnlocobfaaGreat.Row
open Go.ChangeShapes Go.WideShapes Go.ChangeAt Go.RowKit Go.Instr
set_option linter.unusedVariables false
set_option maxRecDepth 100000

def bl (s : ByteArray) : List UInt8 := s.data.toList
def mk (l : List UInt8) : ByteArray := ⟨l.toArray⟩
theorem mk_bl (s : ByteArray) : mk (bl s) = s := by
  show ByteArray.mk (s.data.toList.toArray) = s
  rw [Array.toArray_toList]
theorem bl_mk (l : List UInt8) : bl (mk l) = l := by
  show (l.toArray).toList = l
  rfl
theorem bl_length (s : ByteArray) : (bl s).length = s.size := by
  show s.data.toList.length = s.data.size
  exact Array.length_toList
theorem bl_inj {a b : ByteArray} (h : bl a = bl b) : a = b := by rw [← mk_bl a, ← mk_bl b, h]
theorem bl_get (s : ByteArray) (i : Nat) (h : i < s.size) : (bl s)[i]'(by rw [bl_length]; exact h) = s[i]'h := by
  simp [bl]; rfl
theorem mk_size (l : List UInt8) : (mk l).size = l.length := by
  show l.toArray.size = l.length
  exact List.size_toArray

/-! ### splitting at slashes -/
def goS (cur : List UInt8) : List UInt8 → List (List UInt8)
  | [] => [cur]
  | c :: t => if c = 47 then cur :: goS [] t else goS (cur ++ [c]) t
theorem goS_ne : ∀ (t cur : List UInt8), goS cur t ≠ []
  | [], cur => by simp [goS]
  | c :: t, cur => by
    unfold goS; split
    · simp
    · exact goS_ne t _
theorem goS_free : ∀ (p cur rest : List UInt8), (∀ c ∈ p, c ≠ 47) → goS cur (p ++ rest) = goS (cur ++ p) rest
  | [], cur, rest, _ => by simp
  | c :: p, cur, rest, h => by
    have hc := h c (by simp)
    rw [List.cons_append, goS, if_neg hc, goS_free p _ rest (fun d hd => h d (by simp [hd]))]
    simp
theorem join_cons2 (x y : List UInt8) (r : List (List UInt8)) : Lib.join (x :: y :: r) [47] = x ++ 47 :: Lib.join (y :: r) [47] := by
  rw [Lib.join_cons, Lib.join_cons]
  simp [Lib.joinTail]
/-- Joined again, the pieces are the text. -/
theorem join_goS : ∀ (t cur : List UInt8), Lib.join (goS cur t) [47] = cur ++ t
  | [], cur => by simp [goS, Lib.join_one]
  | c :: t, cur => by
    unfold goS; split
    · rename_i h
      obtain ⟨y, r, hy⟩ : ∃ y r, goS [] t = y :: r := by
        cases hg : goS [] t with
        | nil => exact absurd hg (goS_ne t [])
        | cons y r => exact ⟨y, r, rfl⟩
      have := join_goS t []
      rw [hy] at this ⊢
      rw [join_cons2, this, h]; simp
    · rw [join_goS t]; simp
/-- Parts without slashes, joined, are split into the parts. -/
theorem goS_join : ∀ (P : List (List UInt8)), P ≠ [] → (∀ p ∈ P, ∀ c ∈ p, c ≠ 47) → goS [] (Lib.join P [47]) = P
  | [], h, _ => absurd rfl h
  | [x], _, hf => by
    have := goS_free x [] [] (hf x (by simp))
    rw [List.append_nil] at this
    rw [Lib.join_one, this]; simp [goS]
  | x :: y :: r, _, hf => by
    rw [join_cons2, goS_free x [] _ (hf x (by simp)), goS, if_pos rfl, goS_join (y :: r) (by simp) (fun p hp => hf p (by simp [hp]))]
    simp

/-! ### texts of names -/
def fmtL (l : List ByteArray) : List UInt8 := 47 :: Lib.join (l.map bl) [47]
def fmtS (l : List ByteArray) : ByteArray := mk (fmtL l)
def splitB (s : ByteArray) : List ByteArray := (goS [] (bl s)).map mk
def fullB (s : ByteArray) : Bool := decide (s.size ≠ 0)
def partsB (s : ByteArray) : List ByteArray := (splitB s).filter fullB
def pOk (s : ByteArray) : Bool := validN (partsB s) && decide (fmtS (partsB s) = s)
def pN (s : ByteArray) : List ByteArray := if pOk s = true then partsB s else []
theorem map_bl_mk (L : List (List UInt8)) : (L.map mk).map bl = L := by
  rw [List.map_map]
  have : (bl ∘ mk) = id := funext fun l => bl_mk l
  rw [this, List.map_id]
theorem map_mk_bl (L : List ByteArray) : (L.map bl).map mk = L := by
  rw [List.map_map]
  have : (mk ∘ bl) = id := funext fun l => mk_bl l
  rw [this, List.map_id]

theorem valid_free {p : ByteArray} (h : validP p = true) : ∀ c ∈ bl p, c ≠ 47 := by
  intro c hc e
  obtain ⟨i, hi, rfl⟩ := List.getElem_of_mem hc
  rw [bl_length] at hi
  have h1 := (validP_iff.1 h).2.2 i hi hi
  rw [bl_get p i hi] at e
  rw [e] at h1
  simp [okR] at h1
theorem valid_full {p : ByteArray} (h : validP p = true) : fullB p = true := by
  have := (validP_iff.1 h).1
  unfold fullB; exact decide_eq_true (by omega)
theorem filter_valid {l : List ByteArray} (h : validN l = true) : l.filter fullB = l := by
  rw [List.filter_eq_self]
  exact fun p hp => valid_full ((validN_iff.1 h).2 p hp)
theorem free_of_valid {l : List ByteArray} (h : validN l = true) : ∀ p ∈ l.map bl, ∀ c ∈ p, c ≠ 47 := by
  intro p hp
  obtain ⟨q, hq, rfl⟩ := List.mem_map.1 hp
  exact valid_free ((validN_iff.1 h).2 q hq)

theorem fmtS_nil : fmtS [] = mk [47] := by simp [fmtS, fmtL, Lib.join_nil]
/-- The text of a right name that has parts is split into the empty piece and the parts. -/
theorem split_fmt {l : List ByteArray} (h : validN l = true) (hl : l ≠ []) : splitB (fmtS l) = mk [] :: l := by
  unfold splitB fmtS fmtL
  rw [bl_mk, goS, if_pos rfl, goS_join (l.map bl) (by simpa using hl) (free_of_valid h), List.map_cons, map_mk_bl]
theorem parts_fmt {l : List ByteArray} (h : validN l = true) : partsB (fmtS l) = l := by
  by_cases hl : l = []
  · subst hl
    rw [fmtS_nil]
    unfold partsB splitB
    rw [bl_mk]
    simp [goS, fullB, mk_size]
  · unfold partsB
    rw [split_fmt h hl, List.filter_cons_of_neg (by simp [fullB, mk_size]), filter_valid h]
theorem pOk_fmt {l : List ByteArray} (h : validN l = true) : pOk (fmtS l) = true := by
  unfold pOk; rw [parts_fmt h, h]; simp
theorem pN_fmt {l : List ByteArray} (h : validN l = true) : pN (fmtS l) = l := by
  unfold pN; rw [if_pos (pOk_fmt h), parts_fmt h]
theorem pOk_iff {s : ByteArray} : pOk s = true ↔ validN (partsB s) = true ∧ fmtS (partsB s) = s := by unfold pOk; simp
theorem pN_yes {s : ByteArray} (h : pOk s = true) : pN s = partsB s := if_pos h
theorem pN_no {s : ByteArray} (h : pOk s = false) : pN s = [] := if_neg (by simp [h])
theorem valid_pN (s : ByteArray) : validN (pN s) = true := by
  cases h : pOk s with
  | true => rw [pN_yes h]; exact (pOk_iff.1 h).1
  | false => rw [pN_no h]; decide

/-- The reference model's way: what the pieces are asked. -/
theorem pOk_slash : pOk (mk [47]) = true ∧ pN (mk [47]) = [] := by
  have h : validN [] = true := by decide
  rw [← fmtS_nil]
  exact ⟨pOk_fmt h, pN_fmt h⟩
theorem split_yes {s : ByteArray} {rest : List ByteArray} (h : splitB s = mk [] :: rest) (hr : rest ≠ []) (hv : validN rest = true) : pOk s = true ∧ pN s = rest := by
  have hs : fmtS rest = s := by
    apply bl_inj
    have h1 : goS [] (bl s) = [] :: rest.map bl := by
      have := congrArg (List.map bl) h
      unfold splitB at this
      rw [map_bl_mk, List.map_cons, bl_mk] at this
      exact this
    have h2 := join_goS (bl s) []
    rw [h1] at h2
    obtain ⟨y, r, rfl⟩ : ∃ y r, rest = y :: r := by
      cases rest with
      | nil => exact absurd rfl hr
      | cons y r => exact ⟨y, r, rfl⟩
    rw [List.map_cons, join_cons2, ← List.map_cons] at h2
    unfold fmtS fmtL
    rw [bl_mk]
    exact h2
  rw [← hs]
  exact ⟨pOk_fmt hv, pN_fmt hv⟩
theorem split_no {s : ByteArray} (h47 : s ≠ mk [47]) (h : ∀ rest, splitB s = mk [] :: rest → rest ≠ [] → validN rest = false) : pOk s = false := by
  cases hp : pOk s with
  | false => rfl
  | true =>
    obtain ⟨h1, h2⟩ := pOk_iff.1 hp
    by_cases he : partsB s = []
    · rw [he, fmtS_nil] at h2
      exact absurd h2.symm h47
    · have h3 := split_fmt h1 he
      rw [h2] at h3
      have h4 := h _ h3 he
      rw [h1] at h4; cases h4

/-! ### runs of bytes and runes -/
def seg (s : ByteArray) (f i : Nat) : List UInt8 := ((bl s).drop f).take (i - f)
def rest (s : ByteArray) (i : Nat) : List UInt8 := (bl s).drop i
theorem rest_end (s : ByteArray) : rest s s.size = [] := by unfold rest; rw [← bl_length]; simp
theorem rest_cons (s : ByteArray) {i : Nat} (h : i < s.size) : rest s i = s[i]'h :: rest s (i + 1) := by
  unfold rest
  rw [List.drop_eq_getElem_cons (by rw [bl_length]; exact h), bl_get s i h]
theorem seg_self (s : ByteArray) (i : Nat) : seg s i i = [] := by simp [seg]
theorem seg_succ (s : ByteArray) {f i : Nat} (hf : f ≤ i) (h : i < s.size) : seg s f (i + 1) = seg s f i ++ [s[i]'h] := by
  unfold seg
  have e : i + 1 - f = (i - f) + 1 := by omega
  rw [e, List.take_add_one, List.getElem?_drop, show f + (i - f) = i by omega, List.getElem?_eq_getElem (by rw [bl_length]; exact h), bl_get s i h]
  rfl
theorem seg_length (s : ByteArray) {f i : Nat} (hf : f ≤ i) (h : i ≤ s.size) : (seg s f i).length = i - f := by
  unfold seg; rw [List.length_take, List.length_drop, bl_length]; omega
theorem extract_seg (s : ByteArray) (f i : Nat) : s.extract f i = mk (seg s f i) := by
  conv => lhs; rw [← mk_bl s]
  exact ByteArray.extract_mk (bl s) f i
theorem goS_slash (s : ByteArray) {f i : Nat} (h : i < s.size) (hc : s[i]'h = 47) : goS (seg s f i) (rest s i) = seg s f i :: goS (seg s (i + 1) (i + 1)) (rest s (i + 1)) := by
  rw [rest_cons s h, goS, if_pos hc, seg_self]
theorem goS_byte (s : ByteArray) {f i : Nat} (hf : f ≤ i) (h : i < s.size) (hc : s[i]'h ≠ 47) : goS (seg s f i) (rest s i) = goS (seg s f (i + 1)) (rest s (i + 1)) := by
  rw [rest_cons s h, goS, if_neg hc, seg_succ s hf h]
theorem goS_end (s : ByteArray) (f : Nat) : goS (seg s f s.size) (rest s s.size) = [seg s f s.size] := by rw [rest_end]; rfl
theorem goS_bytes (s : ByteArray) {f i : Nat} (hf : f ≤ i) : ∀ m, (hm : i + m ≤ s.size) → (∀ j (hj : j < m), s[i + j]'(by omega) ≠ 47) → goS (seg s f i) (rest s i) = goS (seg s f (i + m)) (rest s (i + m))
  | 0, _, _ => rfl
  | m + 1, hm, hc => by
    rw [goS_bytes s hf m (by omega) (fun j hj => hc j (by omega)), goS_byte s (by omega) (by omega) (hc m (by omega))]
    rfl

end Go.Proofs.YtbooamnlocobfaaGreat.Row
/- Contracts of the functions that split a text at its slashes, the program's (without the empty pieces, rune by rune) and the reference model's (all pieces, byte by byte). No conditions but that lengths fit. -/
namespace Go.Proofs.YtbooamnlocobfaaGreat.Row
open Go.ChangeShapes Go.WideShapes Go.ChangeAt Go.RowKit Go.Instr
set_option linter.unusedVariables false
set_option maxRecDepth 100000

theorem natne {a b : Nat} (h : a ≠ b) : ((a : Int) == (b : Int)) = false := beq_eq_false_iff_ne.2 (by omega)
theorem nat47 {x : Nat} (h : x ≠ 47) : ((x : Int) == 47) = false := beq_eq_false_iff_ne.2 (by omega)
theorem byte47 {c : UInt8} : c = 47 ↔ c.toNat = 47 := by
  constructor
  · rintro rfl; rfl
  · intro h; apply UInt8.toNat_inj.1; rw [h]; rfl

/-- Where the reference model's loop stands: the pieces so far, and the rest. -/
def SpI (s : ByteArray) (k f : Nat) (L : List ByteArray) : Prop :=
  (k ≤ s.size → splitB s = L ++ (goS (seg s f k) (rest s k)).map mk) ∧ (k = s.size + 1 → splitB s = L)
theorem SpI.start (s : ByteArray) : SpI s 0 0 [] := ⟨fun _ => by unfold splitB; rw [seg_self]; rfl, fun h => by omega⟩
theorem SpI.cut {s : ByteArray} {k f : Nat} {L : List ByteArray} (h : SpI s k f L) (hk : k ≤ s.size) (hf : f ≤ k) (hc : ∀ h : k < s.size, s[k]'h = 47) : SpI s (k + 1) (k + 1) (L ++ [s.extract f k]) := by
  have h1 := h.1 hk
  by_cases hl : k < s.size
  · rw [goS_slash s hl (hc hl)] at h1
    refine ⟨fun _ => ?_, fun e => by omega⟩
    rw [h1, extract_seg]; simp
  · obtain rfl : k = s.size := by omega
    rw [goS_end] at h1
    refine ⟨fun e => by omega, fun _ => ?_⟩
    rw [h1, extract_seg]; simp
theorem SpI.on {s : ByteArray} {k f : Nat} {L : List ByteArray} (h : SpI s k f L) (hf : f ≤ k) (hl : k < s.size) (hc : s[k]'hl ≠ 47) : SpI s (k + 1) f L := by
  have h1 := h.1 (by omega)
  rw [goS_byte s hf hl hc] at h1
  exact ⟨fun _ => h1, fun e => by omega⟩

set_option maxHeartbeats 2000000 in
theorem l4Split (s : ByteArray) (w : World) (hs : s.size ≤ 10000000) :
    Calls Tryz.prog 101 #[.string s, .int .u8 47] w (GivesS w (splitB s)) := by
  have H0 := Lib.hid (own_empty Value.string 9 w)
  have B0 := Lib.hid ((Below.refl w.heap.size w).alloc (Nat.le_refl _) (.cells #[] 9))
  go_enter Tryz.func101, Tryz.ntmps101
  go_wp2_with fail
  go_loopw [5, 6, 7] (fun rv fv iv wr => ∃ (k f m : Nat) (L : List ByteArray), k ≤ s.size + 1 ∧ f ≤ k ∧ m ≤ k ∧ iv = .int .i64 k ∧ fv = .int .i64 f ∧ Hid (L.length = m) ∧ Hid (Own 9 Value.string w.heap.size wr rv L) ∧ Hid (Below w.heap.size w wr) ∧ Hid (SpI s k f L)) (fun _ _ iv _ => s.size + 1 - (intOf iv).toNat)
  case atStart => exact ⟨0, 0, 0, [], by omega, Nat.le_refl _, Nat.le_refl _, rfl, rfl, Lib.hid rfl, H0, B0, Lib.hid (SpI.start s)⟩
  case round =>
    obtain ⟨k, f, m, L, hk, hf, hm, rfl, rfl, hL, ho, hb, hI⟩ := hrel
    by_cases hle : k ≤ s.size
    · by_cases hcut : ∀ h : k < s.size, s[k]'h = 47
      · have HI2 := Lib.hid (hI.out.cut hle hf hcut)
        have HO := Lib.hid (ho.out.on ((Below.refl _ _).alloc (Nat.le_refl _) (.cells #[.string (s.extract f k)] 9)))
        have HL2 := Lib.hid (show (L ++ [s.extract f k]).length = m + 1 by rw [List.length_append, hL.out]; rfl)
        have hlm : (L.length + [s.extract f k].length) * 16 ≤ 140737488355328 := by rw [hL.out]; simp; omega
        have hlx : L.length + [s.extract f k].length ≤ maxLen := by rw [hL.out]; unfold maxLen; simp; omega
        have HLM := Lib.hid hlm; have HLX := Lib.hid hlx
        clear hlm hlx
        by_cases hlt : k < s.size
        · have hne : ((k : Int) == (s.size : Int)) = false := natne (Nat.ne_of_lt hlt)
          have hb47 : (((s[k]'hlt).toNat : Int) == 47) = true := by
            have := byte47.1 (hcut hlt)
            rw [this]; rfl
          clear hcut
          go_wp2_with (at_builtin; refine wpList_app (enc := Value.string) (B := w.heap.size) (l := L) (m := [s.extract f k]) rfl _ _ rfl Tryz.underlying24 elemSTR rfl rfl rfl HO.out (holds_one Value.string 9 _ _) oneStr HLM.out HLX.out (Nat.le_trans hb.out.size (by simp)) ?_)
          intro v2 w2 ho2 hg2
          have HO2 := Lib.hid ho2
          have HB2 := Lib.hid ((hb.out.alloc hb.out.size (.cells #[.string (s.extract f k)] 9)).grown hg2 (Nat.le_trans hb.out.size (by simp)) (fun g hh => (HO.out.lt g hh).1))
          clear ho2 hg2
          go_wp2_with fail
          go_roundw
          case rel => exact ⟨k + 1, k + 1, m + 1, _, by omega, Nat.le_refl _, by omega, by go_num, by go_num, HL2, HO2, HB2, HI2⟩
          case measure => simp [intOf]; omega
        · obtain rfl : k = s.size := by omega
          clear hcut
          go_wp2_with (at_builtin; refine wpList_app (enc := Value.string) (B := w.heap.size) (l := L) (m := [s.extract f s.size]) rfl _ _ rfl Tryz.underlying24 elemSTR rfl rfl rfl HO.out (holds_one Value.string 9 _ _) oneStr HLM.out HLX.out (Nat.le_trans hb.out.size (by simp)) ?_)
          intro v2 w2 ho2 hg2
          have HO2 := Lib.hid ho2
          have HB2 := Lib.hid ((hb.out.alloc hb.out.size (.cells #[.string (s.extract f s.size)] 9)).grown hg2 (Nat.le_trans hb.out.size (by simp)) (fun g hh => (HO.out.lt g hh).1))
          clear ho2 hg2
          go_wp2_with fail
          go_roundw
          case rel => exact ⟨s.size + 1, s.size + 1, m + 1, _, by omega, Nat.le_refl _, by omega, by go_num, by go_num, HL2, HO2, HB2, HI2⟩
          case measure => simp [intOf]
      · have hlt : k < s.size := by
          by_cases h : k < s.size
          · exact h
          · exact absurd (fun h2 => absurd h2 h) hcut
        have hc : s[k]'hlt ≠ 47 := fun e => hcut (fun _ => e)
        have HI2 := Lib.hid (hI.out.on hf hlt hc)
        have hne : ((k : Int) == (s.size : Int)) = false := natne (Nat.ne_of_lt hlt)
        have hb47 : (((s[k]'hlt).toNat : Int) == 47) = false := nat47 (fun e => hc (byte47.2 e))
        clear hcut hc
        go_wp2_with fail
        go_roundw
        case rel => exact ⟨k + 1, f, m, L, by omega, by omega, by omega, by go_num, rfl, hL, ho, hb, HI2⟩
        case measure => simp [intOf]; omega
    · obtain rfl : k = s.size + 1 := by omega
      have HE := Lib.hid (hI.out.2 rfl)
      clear hle
      go_wp2_with fail
      go_ret
      exact ⟨_, rfl, by rw [HE.out]; exact ho.out, hb.out⟩

/-! ### the program's way: rune by rune, over the text with a slash behind it -/
def SpN (s : ByteArray) (k f : Nat) (L : List ByteArray) : Prop :=
  (k ≤ s.size → partsB s = L ++ ((goS (seg s f k) (rest s k)).map mk).filter fullB) ∧ (k = s.size + 1 → partsB s = L)
theorem SpN.start (s : ByteArray) : SpN s 0 0 [] := ⟨fun _ => by unfold partsB splitB; rw [seg_self]; rfl, fun h => by omega⟩
theorem seg_full {s : ByteArray} {f k : Nat} (hf : f ≤ k) (hk : k ≤ s.size) : fullB (mk (seg s f k)) = decide (f < k) := by
  unfold fullB
  rw [mk_size, seg_length s hf hk]
  congr 1
  apply propext; omega
theorem SpN.cut {s : ByteArray} {k f : Nat} {L : List ByteArray} (h : SpN s k f L) (hk : k ≤ s.size) (hf : f ≤ k) (hc : ∀ h : k < s.size, s[k]'h = 47) : SpN s (k + 1) (k + 1) (if f < k then L ++ [s.extract f k] else L) := by
  have h1 := h.1 hk
  have hfull := seg_full (s := s) hf hk
  by_cases hl : k < s.size
  · rw [goS_slash s hl (hc hl), List.map_cons, List.filter_cons, hfull] at h1
    refine ⟨fun _ => ?_, fun e => by omega⟩
    rw [h1, extract_seg]
    by_cases hfk : f < k
    · simp [hfk]
    · simp [hfk]
  · obtain rfl : k = s.size := by omega
    rw [goS_end, List.map_cons, List.filter_cons, hfull] at h1
    refine ⟨fun e => by omega, fun _ => ?_⟩
    rw [h1, extract_seg]
    by_cases hfk : f < s.size
    · simp [hfk]
    · simp [hfk]
theorem SpN.on {s : ByteArray} {k f : Nat} {L : List ByteArray} (h : SpN s k f L) (hf : f ≤ k) {m : Nat} (h0 : 1 ≤ m) (hm : k + m ≤ s.size) (hc : ∀ j (hj : j < m), s[k + j]'(by omega) ≠ 47) : SpN s (k + m) f L := by
  have h1 := h.1 (by omega)
  rw [goS_bytes s hf m hm hc] at h1
  exact ⟨fun _ => h1, fun e => by omega⟩

end Go.Proofs.YtbooamnlocobfaaGreat.Row
/- Contracts of ParseName, the program's and the reference model's. No conditions but that lengths fit. -/
namespace Go.Proofs.YtbooamnlocobfaaGreat.Row
open Go.ChangeShapes Go.WideShapes Go.ChangeAt Go.RowKit Go.Instr
set_option linter.unusedVariables false
set_option maxRecDepth 100000

theorem bulk_goS : ∀ (t cur : List UInt8), bulk ((goS cur t).map mk) = cur.length + t.length + 1
  | [], cur => by simp [goS, bulk_one, mk_size]; omega
  | c :: t, cur => by
    unfold goS
    split
    · rw [List.map_cons, bulk_cons, bulk_goS t, mk_size]; simp; omega
    · rw [bulk_goS t]; simp; omega
theorem bulk_split (s : ByteArray) : bulk (splitB s) = s.size + 1 := by
  unfold splitB; rw [bulk_goS, bl_length]; simp
theorem split_pos (s : ByteArray) : 0 < (splitB s).length := by
  unfold splitB; rw [List.length_map]
  exact List.length_pos_iff.2 (goS_ne _ _)

theorem tl47 : (mk [47]).toList = [47] := ByteArray.toList_mk [47]
theorem tl0 : (mk []).toList = [] := ByteArray.toList_mk []

set_option maxHeartbeats 2000000 in
theorem specParseName (s : ByteArray) (w : World) (hs : s.size ≤ 10000000) :
    Calls Tryz.prog 94 #[.string s] w (GivesHB w (pN s) (pOk s)) := by
  have HB0 := Lib.hid ((Below.refl w.heap.size w).alloc (Nat.le_refl _) (.cells #[.slice none 0 0] 26))
  have HR := Lib.hid (Ret.NC.new' (w := w) (.slice none 0 0) 26 rfl)
  by_cases h47 : s = mk [47]
  · obtain ⟨p1, p2⟩ := pOk_slash
    rw [← h47] at p1 p2
    have HP := Lib.hid p1; have HPN := Lib.hid p2
    have hq : (s.toList == [47]) = true := by rw [h47, tl47]; rfl
    clear p1 p2 h47
    go_enter Tryz.func94, Tryz.ntmps94
    go_wp2
    refine bodyPost_ret (Ret.results_ct rfl _ _ w.heap.size [_] rfl aggN (Ret.one HR.out.1)) rfl ?_
    exact ⟨_, ret_nb HP.out.symm, by rw [HPN.out]; exact Holds.nil _ _, HB0.out⟩
  · have h47l : s.toList ≠ [47] := fun e => h47 (toList_inj (e.trans tl47.symm))
    have hq : (s.toList == [47]) = false := by simpa using h47l
    have H47 := Lib.hid h47
    have hpos := split_pos s
    have hbk := bulk_split s
    have hlb := bulk_len (splitB s)
    obtain ⟨n, hn⟩ : ∃ n, n = (splitB s).length := ⟨_, rfl⟩
    rw [← hn] at hpos hlb
    have hnb : n ≤ 10000001 := by omega
    have HN := Lib.hid hn
    have HBK := Lib.hid hbk
    clear h47 h47l hn hbk hlb
    go_enter Tryz.func94, Tryz.ntmps94
    go_wp2_with fail
    refine (l4Split s _ hs).mono ?_
    rintro e w1 ⟨v1, rfl, ho1, hb1⟩
    have HB1 := Lib.hid (HB0.out.trans (hb1.mono HB0.out.size))
    have HR1 := Lib.hid (HR.out.on hb1)
    obtain ⟨g, c1, rfl, hg1, hg2, hc1⟩ : ∃ g c1, v1 = .slice (some ⟨g, 0, none⟩) n c1 ∧ w.heap.size + 1 ≤ g ∧ g < w1.heap.size ∧ n ≤ c1 := by
      rcases ho1.form with ⟨_, h2⟩ | ⟨g, c1, h1, h2, h3, h4, h5⟩
      · exact absurd (congrArg List.length h2) (by rw [← HN.out]; simp; omega)
      · exact ⟨g, c1, by rw [h1, HN.out], by simpa using h2, h3, by rw [HN.out]; exact h4⟩
    have HH1 := Lib.hid ho1.holds
    clear ho1 hb1
    by_cases h2 : n = 1
    · subst h2
      have HP := Lib.hid (split_no H47.out (fun rest h hr => by
        have h3 := HN.out
        rw [h] at h3
        simp at h3
        exact absurd h3 hr))
      have HPN := Lib.hid (pN_no HP.out)
      by_cases hc : c1 = 1
      · subst hc
        obtain ⟨hk2, hf2⟩ := HR1.out.alloc (.cells #[.slice (some ⟨g, 0, none⟩) 0 0] 26)
        obtain ⟨q1, q2, q3⟩ := endN (w := w) (g := w.heap.size) (B := w.heap.size + 1) (v := .slice none 0 0) (l := []) (by omega) (by omega) (Own.nil _ _ _ _) hk2 (HB1.out.alloc HB1.out.size (.cells #[.slice (some ⟨g, 0, none⟩) 0 0] 26))
        have HQ1 := Lib.hid q1; have HQ2 := Lib.hid q2; have HQ3 := Lib.hid q3
        clear q1 q2 q3
        go_wp2
        refine bodyPost_ret (Ret.results_ct rfl _ _ w.heap.size [_] rfl aggN (Ret.one HQ1.out)) rfl ?_
        exact ⟨_, ret_nb HP.out.symm, by rw [HPN.out]; exact HQ2.out.holds, HQ3.out⟩
      · have hc2 : ¬ c1 - 1 = 0 := by omega
        obtain ⟨hk2, hf2⟩ := HR1.out.alloc (.cells #[.slice (some ⟨g, 1, none⟩) 0 (c1 - 1)] 26)
        obtain ⟨q1, q2, q3⟩ := endN (w := w) (g := w.heap.size) (B := w.heap.size + 1) (v := .slice none 0 0) (l := []) (by omega) (by omega) (Own.nil _ _ _ _) hk2 (HB1.out.alloc HB1.out.size (.cells #[.slice (some ⟨g, 1, none⟩) 0 (c1 - 1)] 26))
        have HQ1 := Lib.hid q1; have HQ2 := Lib.hid q2; have HQ3 := Lib.hid q3
        clear q1 q2 q3
        go_wp2
        refine bodyPost_ret (Ret.results_ct rfl _ _ w.heap.size [_] rfl aggN (Ret.one HQ1.out)) rfl ?_
        exact ⟨_, ret_nb HP.out.symm, by rw [HPN.out]; exact HQ2.out.holds, HQ3.out⟩
    · have hn2 : 2 ≤ n := by omega
      have hn3 : decide ((n : Int) < 2) = false := by simp; omega
      have hc2 : ¬ c1 = 1 := by omega
      obtain ⟨b0, off0, he0, hcell⟩ := HH1.out.at (j := 0) (by rw [← HN.out]; omega)
      cases he0
      have HD := Lib.hid ((HH1.out.drop (j := 1) (by rw [← HN.out]; omega)).on ((Below.refl _ _).alloc (Nat.le_refl _) (.cells #[.slice (some ⟨g, 1, none⟩) (n - 1) (c1 - 1)] 26)))
      have HL := Lib.hid (show splitB s = nth (splitB s) 0 :: (splitB s).drop 1 by
        have := drop_nth (l := splitB s) (k := 0) (by rw [← HN.out]; omega)
        rw [List.drop_zero] at this
        exact this)
      have HDN := Lib.hid (show (splitB s).drop 1 ≠ [] by
        intro e
        have := congrArg List.length e
        rw [List.length_drop, ← HN.out] at this
        simp at this; omega)
      have HBD := Lib.hid (show bulk ((splitB s).drop 1) ≤ 100000000 by
        have h3 := HBK.out
        rw [HL.out, bulk_cons] at h3
        omega)
      have HR2 := Lib.hid (HR1.out.alloc (.cells #[.slice (some ⟨g, 1, none⟩) (n - 1) (c1 - 1)] 26))
      have HT2 := Lib.hid (Ret.NC.new' (w := w1) (.slice (some ⟨g, 1, none⟩) (n - 1) (c1 - 1)) 26 rfl)
      have HB2 := Lib.hid (HB1.out.alloc HB1.out.size (.cells #[.slice (some ⟨g, 1, none⟩) (n - 1) (c1 - 1)] 26))
      rw [Nat.add_zero] at hcell
      by_cases hx : nth (splitB s) 0 = mk []
      · have hxe : (nth (splitB s) 0).toList.isEmpty = true := by rw [hx, tl0]; rfl
        have HX := Lib.hid hx
        clear hx
        go_wp2_with fail
        refine (specValidName _ _ _ HD.out HBD.out).mono ?_
        rintro e w3 ⟨rfl, hb3⟩
        have HR3 := Lib.hid (HR2.out.on hb3)
        have HT3 := Lib.hid (HT2.out.on hb3)
        have HD3 := Lib.hid (HD.out.on hb3)
        have HB3 := Lib.hid (HB2.out.trans (hb3.mono HB2.out.size))
        clear hb3
        cases hv : validN ((splitB s).drop 1) with
        | true =>
          obtain ⟨p1, p2⟩ := split_yes (by have := HL.out; rw [HX.out] at this; exact this) HDN.out hv
          have HP := Lib.hid p1; have HPN := Lib.hid p2
          obtain ⟨hk2, hf2⟩ := HR3.out
          obtain ⟨hk3, -⟩ := HT3.out
          have HQ1 := Lib.hid (Ret.set_same (v := .slice (some ⟨g, 1, none⟩) (n - 1) (c1 - 1)) hk2)
          have HQ2 := Lib.hid (HD3.out.grown (Ret.grownBy_set w3 ⟨w.heap.size, 0, none⟩ (.slice (some ⟨g, 1, none⟩) (n - 1) (c1 - 1))) (fun g1 h1 e1 => by simp [Value.ownBlock] at h1 e1; omega))
          have HQ3 := Lib.hid (HB3.out.setCell (p := ⟨w.heap.size, 0, none⟩) (Nat.le_refl _) (.slice (some ⟨g, 1, none⟩) (n - 1) (c1 - 1)))
          clear p1 p2 hv
          go_wp2
          refine bodyPost_ret (Ret.results_ct rfl _ _ w.heap.size [_] rfl aggN (Ret.one HQ1.out)) rfl ?_
          exact ⟨_, ret_nb HP.out.symm, by rw [HPN.out]; exact HQ2.out, HQ3.out⟩
        | false =>
          have HP := Lib.hid (split_no H47.out (fun rest h hr => by
            have h3 := HL.out
            rw [h] at h3
            have h4 := (List.cons.inj h3).2
            rw [h4, ← h]; exact hv))
          have HPN := Lib.hid (pN_no HP.out)
          obtain ⟨hk2, hf2⟩ := HR3.out
          obtain ⟨q1, q2, q3⟩ := endN (w := w) (g := w.heap.size) (B := w.heap.size + 1) (v := .slice none 0 0) (l := []) (by omega) (by omega) (Own.nil _ _ _ _) hk2 HB3.out
          have HQ1 := Lib.hid q1; have HQ2 := Lib.hid q2; have HQ3 := Lib.hid q3
          clear q1 q2 q3 hv
          go_wp2
          refine bodyPost_ret (Ret.results_ct rfl _ _ w.heap.size [_] rfl aggN (Ret.one HQ1.out)) rfl ?_
          exact ⟨_, ret_nb HP.out.symm, by rw [HPN.out]; exact HQ2.out.holds, HQ3.out⟩
      · have hxe : (nth (splitB s) 0).toList.isEmpty = false := by
          have : (nth (splitB s) 0).toList ≠ [] := fun e => hx (toList_inj (e.trans tl0.symm))
          simpa using this
        have HP := Lib.hid (split_no H47.out (fun rest h hr => by
          have h3 := HL.out
          rw [h] at h3
          exact absurd (by rw [h]; exact (List.cons.inj h3).1.symm) hx))
        have HPN := Lib.hid (pN_no HP.out)
        clear hx
        obtain ⟨hk2, hf2⟩ := HR2.out
        obtain ⟨q1, q2, q3⟩ := endN (w := w) (g := w.heap.size) (B := w.heap.size + 1) (v := .slice none 0 0) (l := []) (by omega) (by omega) (Own.nil _ _ _ _) hk2 HB2.out
        have HQ1 := Lib.hid q1; have HQ2 := Lib.hid q2; have HQ3 := Lib.hid q3
        clear q1 q2 q3
        go_wp2
        refine bodyPost_ret (Ret.results_ct rfl _ _ w.heap.size [_] rfl aggN (Ret.one HQ1.out)) rfl ?_
        exact ⟨_, ret_nb HP.out.symm, by rw [HPN.out]; exact HQ2.out.holds, HQ3.out⟩

end Go.Proofs.YtbooamnlocobfaaGreat.Row
/- Helpers for the model's draws of data packets. What was in memory stays as it was, but for the cursor. -/
namespace Go.Proofs.YtbooamnlocobfaaGreat.Draw
open Go.ChangeShapes Go.WideShapes Go.ChangeAt Go.RowKit Go.Instr
open Go.Proofs.YtbooamnlocobfaaGreat.Row (bulk bulk_append bulk_one bulk_nil bulk_cons Dt dc aggD bulkD advD WfD DHold DOwn)
open Go.Proofs.YtbooamnlocobfaaGreat.Ret (NC Blk Box)
set_option linter.unusedVariables false
set_option maxRecDepth 100000

theorem Cur.setI {w0 : World} {p : Nat} {v : Value} {l : List UInt8} {w : World} (hc : Cur w0 p v l w) {g : Nat} (i : Nat) (hg : w0.heap.size ≤ g) (hp : g ≠ p) (u : Value) : Cur w0 p v l (w.setCell ⟨g, i, none⟩ u) :=
  hc.grown (Ret.grownBy_set w ⟨g, i, none⟩ u) (fun q hq => by
    have : q = g := by simpa using hq.symm
    exact ⟨by omega, by omega⟩)
theorem Keep.setI {p : Nat} {w w1 : World} (hk : Keep p w w1) {g : Nat} (i : Nat) (hg : w.heap.size ≤ g) (u : Value) : Keep p w (w1.setCell ⟨g, i, none⟩ u) :=
  hk.grown (Ret.grownBy_set w1 ⟨g, i, none⟩ u) (fun q hq => by
    have : q = g := by simpa using hq.symm
    omega)
theorem blk_keep {w w' : World} {g p : Nat} {cs : Array Value} {t : TypeId} (h : Blk w g cs t) (hk : Keep p w w') (hne : g ≠ p) : Blk w' g cs t := (hk.block g h.lt hne).trans h
section
variable {W : World} {g q p : Nat} {a b c : Value} {f s : Int} {t : TypeId} {w0 w : World} {v0 : Value} {l0 : List UInt8}
theorem blk5 {cs : Array Value} (h : Blk W g cs t) (hne : g ≠ q) : Blk (((((W.setCell ⟨q, 0, none⟩ (a)).setCell ⟨q, 1, none⟩ (b)).setCell ⟨q, 2, none⟩ (c)).setCell ⟨q, 3, none⟩ (.int .i64 f)).setCell ⟨q, 4, none⟩ (.int .i64 s)) g cs t := (((((h.other (a := ⟨q, 0, none⟩) (fun e => hne e.symm) (a)).other (a := ⟨q, 1, none⟩) (fun e => hne e.symm) (b)).other (a := ⟨q, 2, none⟩) (fun e => hne e.symm) (c)).other (a := ⟨q, 3, none⟩) (fun e => hne e.symm) (.int .i64 f)).other (a := ⟨q, 4, none⟩) (fun e => hne e.symm) (.int .i64 s))
theorem box5 {u : Value} (h : Box W g u t) (hne : g ≠ q) : Box (((((W.setCell ⟨q, 0, none⟩ (a)).setCell ⟨q, 1, none⟩ (b)).setCell ⟨q, 2, none⟩ (c)).setCell ⟨q, 3, none⟩ (.int .i64 f)).setCell ⟨q, 4, none⟩ (.int .i64 s)) g u t := blk5 h hne
theorem set5 {a1 b1 c1 : Value} {f1 s1 : Int} (h : Blk W q (dc a1 b1 c1 f1 s1) t) : Blk (((((W.setCell ⟨q, 0, none⟩ (a)).setCell ⟨q, 1, none⟩ (b)).setCell ⟨q, 2, none⟩ (c)).setCell ⟨q, 3, none⟩ (.int .i64 f)).setCell ⟨q, 4, none⟩ (.int .i64 s)) q (dc a b c f s) t := (((((h.set 0 (a)).set 1 (b)).set 2 (c)).set 3 (.int .i64 f)).set 4 (.int .i64 s))
theorem below5 {B : Nat} (h : Below B w0 W) (hq : B ≤ q) : Below B w0 (((((W.setCell ⟨q, 0, none⟩ (a)).setCell ⟨q, 1, none⟩ (b)).setCell ⟨q, 2, none⟩ (c)).setCell ⟨q, 3, none⟩ (.int .i64 f)).setCell ⟨q, 4, none⟩ (.int .i64 s)) := (((((h.setCell (p := ⟨q, 0, none⟩) hq (a)).setCell (p := ⟨q, 1, none⟩) hq (b)).setCell (p := ⟨q, 2, none⟩) hq (c)).setCell (p := ⟨q, 3, none⟩) hq (.int .i64 f)).setCell (p := ⟨q, 4, none⟩) hq (.int .i64 s))
theorem cur5 (h : Cur w0 p v0 l0 W) (hg : w0.heap.size ≤ q) (hp : q ≠ p) : Cur w0 p v0 l0 (((((W.setCell ⟨q, 0, none⟩ (a)).setCell ⟨q, 1, none⟩ (b)).setCell ⟨q, 2, none⟩ (c)).setCell ⟨q, 3, none⟩ (.int .i64 f)).setCell ⟨q, 4, none⟩ (.int .i64 s)) := (((((h.setI 0 hg hp (a)).setI 1 hg hp (b)).setI 2 hg hp (c)).setI 3 hg hp (.int .i64 f)).setI 4 hg hp (.int .i64 s))
theorem keep5 (h : Keep p w W) (hq : w.heap.size ≤ q) : Keep p w (((((W.setCell ⟨q, 0, none⟩ (a)).setCell ⟨q, 1, none⟩ (b)).setCell ⟨q, 2, none⟩ (c)).setCell ⟨q, 3, none⟩ (.int .i64 f)).setCell ⟨q, 4, none⟩ (.int .i64 s)) := (((((h.setI 0 hq (a)).setI 1 hq (b)).setI 2 hq (c)).setI 3 hq (.int .i64 f)).setI 4 hq (.int .i64 s))
theorem keepC5 (h : Blk W g (dc a b c f s) t) : W.cell? ⟨g, 0, none⟩ = some a ∧ W.cell? ⟨g, 1, none⟩ = some b ∧ W.cell? ⟨g, 2, none⟩ = some c ∧ W.cell? ⟨g, 3, none⟩ = some (.int .i64 f) ∧ W.cell? ⟨g, 4, none⟩ = some (.int .i64 s) := ⟨h.cell 0, h.cell 1, h.cell 2, h.cell 3, h.cell 4⟩
end
/-- A packet's slices, each of the call's own. -/
def DO3 (B : Nat) (w : World) (a b c : Value) (x : Dt) : Prop := Row.Own 9 Value.string B w a x.1 ∧ Sl.Own 5 .u8 B w b x.2.1 ∧ Row.Own 9 Value.string B w c x.2.2.1
section
variable {B p : Nat} {w w' : World} {a b c : Value} {x : Dt}
theorem DO3.of (h : DOwn B w a b c x) : DO3 B w a b c x := ⟨h.1, h.2.1, h.2.2.1⟩
theorem DO3.on (h : DO3 B w a b c x) (hb : Below w.heap.size w w') : DO3 B w' a b c x := ⟨h.1.on hb, Sl.Own.on h.2.1 hb, h.2.2.on hb⟩
theorem DO3.keep (h : DO3 B w a b c x) (hk : Keep p w w') (hp : p < B) : DO3 B w' a b c x := ⟨rown_keep h.1 hk hp, own_keep h.2.1 hk hp, rown_keep h.2.2 hk hp⟩
theorem DO3.mono {B' : Nat} (h : DO3 B w a b c x) (hB : B' ≤ B) : DO3 B' w a b c x := ⟨h.1.mono hB, Sl.Own.mono h.2.1 hB, h.2.2.mono hB⟩
theorem DO3.hold (h : DO3 B w a b c x) : DHold w a b c x := ⟨h.1.holds, Sl.Own.holds h.2.1, h.2.2.holds⟩
theorem DO3.shape (h : DO3 B w a b c x) : ∃ xa na ca xb nb cb xc nc cc, a = .slice xa na ca ∧ b = .slice xb nb cb ∧ c = .slice xc nc cc := h.hold.shape
end
/-- A row of one element type and a variable of another type are different blocks. -/
theorem own_ne_blk {α : Type} [Inhabited α] {enc : α → Value} {e t : TypeId} {B g : Nat} {w : World} {v : Value} {l : List α} {cs : Array Value} (h : Row.Own e enc B w v l) (hb : Blk w g cs t) (hne : e ≠ t) : ∀ q, v.ownBlock = some q → q ≠ g := by
  intro q hq e1
  subst e1
  rcases h.2 with h2 | ⟨g2, cap, cur, hv, hg, hh, r⟩
  · rw [h2.1] at hq; cases hq
  · rw [hv] at hq
    obtain rfl : g2 = q := Option.some.inj hq
    have h3 : w.heap[g2]? = some (.cells cs t) := hb
    rw [hh] at h3
    have h4 := Option.some.inj h3
    injection h4 with h5 h6 h7
    exact hne h6
theorem rown_setT {α : Type} [Inhabited α] {enc : α → Value} {e t : TypeId} {B g i : Nat} {w : World} {v u : Value} {l : List α} {cs : Array Value} (h : Row.Own e enc B w v l) (hb : Blk w g cs t) (hne : e ≠ t) : Row.Own e enc B (w.setCell ⟨g, i, none⟩ u) v l :=
  h.grown (Ret.grownBy_set w ⟨g, i, none⟩ u) (by
    cases hv : v.ownBlock with
    | none => exact Or.inl rfl
    | some q => exact Or.inr fun e => own_ne_blk h hb hne q hv (Option.some.inj e))
theorem own_setT {k : IntKind} {e t : TypeId} {B g i : Nat} {w : World} {v u : Value} {l : List Int} {cs : Array Value} (h : Sl.Own e k B w v l) (hb : Blk w g cs t) (hne : e ≠ t) : Sl.Own e k B (w.setCell ⟨g, i, none⟩ u) v l := rown_setT (enc := Value.int k) h hb hne
theorem DO3.setT {B g i : Nat} {w : World} {a b c u : Value} {x : Dt} {cs : Array Value} (h : DO3 B w a b c x) (hb : Blk w g cs 28) : DO3 B (w.setCell ⟨g, i, none⟩ u) a b c x := ⟨rown_setT h.1 hb (by decide), own_setT h.2.1 hb (by decide), rown_setT h.2.2 hb (by decide)⟩
theorem DO3.fiveT {B q : Nat} {w : World} {a b c a1 b1 c1 : Value} {f s : Int} {x : Dt} {cs : Array Value} (h : DO3 B w a b c x) (hb : Blk w q cs 28) : DO3 B (((((w.setCell ⟨q, 0, none⟩ (a1)).setCell ⟨q, 1, none⟩ (b1)).setCell ⟨q, 2, none⟩ (c1)).setCell ⟨q, 3, none⟩ (.int .i64 f)).setCell ⟨q, 4, none⟩ (.int .i64 s)) a b c x := ((((h.setT hb).setT (hb.set 0 a1)).setT ((hb.set 0 a1).set 1 b1)).setT (((hb.set 0 a1).set 1 b1).set 2 c1)).setT ((((hb.set 0 a1).set 1 b1).set 2 c1).set 3 (.int .i64 f))
/-- A drawn packet: its parts in blocks from B on, small, its numbers fit. -/
def DataIn (B : Nat) (V : Value) (w : World) : Prop := ∃ xa na ca xb nb cb xc nc cc, ∃ y : Dt, V = .agg #[.slice xa na ca, .slice xb nb cb, .slice xc nc cc, .int .i64 y.2.2.2.1, .int .i64 y.2.2.2.2] ∧ DO3 B w (.slice xa na ca) (.slice xb nb cb) (.slice xc nc cc) y ∧ bulkD y ≤ 3000 ∧ WfD y
theorem wfS {l : List ByteArray} (h : bulk l ≤ 100000) : ∀ x ∈ l, x.size ≤ maxLen := fun y hy => by
  obtain ⟨k, hk, rfl⟩ := List.getElem_of_mem hy
  have h1 := Row.size_bulk (l := l) hk
  rw [Row.nth_eq hk] at h1
  have h2 : maxLen = 9223372036854775807 := rfl
  omega
theorem wfB {l : List Int} (h : Sl.Byt l) : ∀ x ∈ l, (Lit.int .u8 x).wf = true := fun x hx => by
  have h1 := h x hx
  have e1 : IntKind.u8.min = 0 := rfl
  have e2 : IntKind.u8.max = 255 := rfl
  simp [Lit.wf, e1, e2, h1.1, h1.2]
theorem wfD_of {x : Dt} (h1 : bulkD x ≤ 3000) (h2 : Sl.Byt x.2.1) (h3 : (Lit.int .i64 x.2.2.2.1).wf = true) (h4 : (Lit.int .i64 x.2.2.2.2).wf = true) : WfD x := by
  unfold bulkD at h1
  exact ⟨wfS (by omega), wfB h2, wfS (by omega), h3, h4⟩
theorem strPick3 (w0 : World) (p : Nat) (v : Value) (l : List UInt8) (w : World) (hc : Cur w0 p v l w) {q : Nat} {a b c : ByteArray} {t : TypeId} (hb : Blk w q #[.string a, .string b, .string c] t) (hq : q ≠ p) (k : Nat) (ha : a.size ≤ k) (hbk : b.size ≤ k) (hck : c.size ≤ k) :
    Calls Tryz.prog 73 #[.pointer (some ⟨p, 0, none⟩), .slice (some ⟨q, 0, none⟩) 3 3] w (Drawn w0 p v l w (StrUpto k)) := by
  refine (strOf w0 p v l w q [.string a, .string b, .string c] 3 rfl (by decide) (by decide) hc hq (fun j hj => ?_)).mono fun e w' h => ?_
  · have h3 : j < 3 := hj
    rw [hb.cell]
    obtain rfl | rfl | rfl : j = 0 ∨ j = 1 ∨ j = 2 := by omega
    all_goals rfl
  · obtain ⟨x, e1, e2, e3⟩ := h
    refine ⟨x, e1, ?_, e3⟩
    simp only [List.mem_cons, List.not_mem_nil, or_false] at e2
    rcases e2 with rfl | rfl | rfl
    · exact ⟨_, rfl, ha⟩
    · exact ⟨_, rfl, hbk⟩
    · exact ⟨_, rfl, hck⟩
set_option maxHeartbeats 1000000 in
theorem l8Secret (w0 : World) (p : Nat) (v : Value) (l : List UInt8) (w : World) (hc : Cur w0 p v l w) :
    Calls Tryz.prog 44 #[.pointer (some ⟨p, 0, none⟩)] w (Drawn w0 p v l w (IntIn 100 104)) := by
  have HD := Lib.hid (below w0 p v l w 5 hc); clear hc
  go_enter Tryz.func44, Tryz.ntmps44
  go_wp2_with fail
  refine HD.out.mono ?_
  rintro e w1 ⟨y, rfl, ⟨r, rfl, hr, _⟩, hc, hk⟩
  have hr := hr (by omega)
  have HC := Lib.hid hc; have HK := Lib.hid hk; clear hc hk HD
  go_wp2_with fail
  go_ret
  exact ⟨_, rfl, ⟨100 + r, rfl, by omega, by omega⟩, HC.out, HK.out⟩
/-- No cell is a text. -/
def NoStr (cs : Array Value) : Prop := ∀ (i : Nat) (s : ByteArray), cs[i]? ≠ some (.string s)
theorem noStr1 (x : Option Addr) (n c : Nat) : NoStr #[.slice x n c] := fun i s h => by
  rcases i with _ | i
  · cases h
  · simp at h
theorem noStrD (xa xb xc : Option Addr) (na ca nb cb nc cc : Nat) (f s : Int) : NoStr (dc (.slice xa na ca) (.slice xb nb cb) (.slice xc nc cc) f s) := fun i s h => by
  rcases i with _ | _ | _ | _ | _ | i
  · cases h
  · cases h
  · cases h
  · cases h
  · cases h
  · simp at h
theorem holdS_ne {w : World} {x : Option Addr} {n c g : Nat} {l : List ByteArray} {cs : Array Value} {t : TypeId} (h : Row.Holds Value.string w (.slice x n c) l) (hb : Blk w g cs t) (hn : NoStr cs) : l = [] ∨ ∀ q, (Value.slice x n c).ownBlock = some q → q ≠ g := by
  obtain ⟨x', cap, hv, hc, hh⟩ := h
  cases hv
  rcases hh with h1 | ⟨b, off, rfl, h2⟩
  · exact Or.inl h1
  · by_cases hl : l = []
    · exact Or.inl hl
    · refine Or.inr fun q hq e => ?_
      have h0 : 0 < l.length := List.length_pos_iff.2 hl
      have h3 := h2 0 h0
      have h4 : b = q := by simpa [Value.ownBlock] using hq
      subst h4
      subst e
      rw [hb.cell] at h3
      exact hn _ _ h3
theorem holdS_set {w : World} {x : Option Addr} {n c g i : Nat} {l : List ByteArray} {cs : Array Value} {t : TypeId} {u : Value} (h : Row.Holds Value.string w (.slice x n c) l) (hb : Blk w g cs t) (hn : NoStr cs) : Row.Holds Value.string (w.setCell ⟨g, i, none⟩ u) (.slice x n c) l := by
  have h9 := holdS_ne h hb hn
  obtain ⟨x', cap, hv, hc, hh⟩ := h
  cases hv
  refine ⟨x, _, rfl, hc, ?_⟩
  rcases h9 with h9 | h9
  · exact Or.inl h9
  rcases hh with h1 | ⟨b, off, rfl, h2⟩
  · exact Or.inl h1
  · refine Or.inr ⟨b, off, rfl, fun j hj => ?_⟩
    have h3 : b ≠ g := h9 b rfl
    exact (World.cell?_of_block (w := w) (Go.RowKit.Below.heap_setCell _ _ _ _ h3)).trans (h2 j hj)
theorem holdS_five {w : World} {x xa xb xc ya yb yc : Option Addr} {n c q na ca nb cb nc cc ma da mb db mc dc' : Nat} {l : List ByteArray} {t : TypeId} {f s f1 s1 : Int} (h : Row.Holds Value.string w (.slice x n c) l) (hb : Blk w q (dc (.slice xa na ca) (.slice xb nb cb) (.slice xc nc cc) f s) t) : Row.Holds Value.string (((((w.setCell ⟨q, 0, none⟩ (.slice ya ma da)).setCell ⟨q, 1, none⟩ (.slice yb mb db)).setCell ⟨q, 2, none⟩ (.slice yc mc dc')).setCell ⟨q, 3, none⟩ (.int .i64 f1)).setCell ⟨q, 4, none⟩ (.int .i64 s1)) (.slice x n c) l := by
  have b1 := hb.set 0 (.slice ya ma da)
  have b2 := b1.set 1 (.slice yb mb db)
  have b3 := b2.set 2 (.slice yc mc dc')
  have b4 := b3.set 3 (.int .i64 f1)
  exact holdS_set (holdS_set (holdS_set (holdS_set (holdS_set h hb (noStrD _ _ _ _ _ _ _ _ _ _ _)) b1 (noStrD ya xb xc ma da nb cb nc cc f s)) b2 (noStrD ya yb xc ma da mb db nc cc f s)) b3 (noStrD ya yb yc ma da mb db mc dc' f s)) b4 (noStrD ya yb yc ma da mb db mc dc' f1 s)
theorem holdS_keep {w0 : World} {p : Nat} {v : Value} {l0 : List UInt8} {w w' : World} {x : Option Addr} {n c : Nat} {l : List ByteArray} (h : Row.Holds Value.string w (.slice x n c) l) (hc : Cur w0 p v l0 w) (hk : Keep p w w') : Row.Holds Value.string w' (.slice x n c) l := by
  obtain ⟨i, k, h0, h1, hrow⟩ := hc.row
  obtain ⟨bx, bn, bv⟩ := bytes_at hc.bytes
  obtain ⟨x', cap, hv, hcap, hh⟩ := h
  cases hv
  refine ⟨x, _, rfl, hcap, ?_⟩
  rcases hh with h2 | ⟨b, off, rfl, h2⟩
  · exact Or.inl h2
  by_cases hl : l = []
  · exact Or.inl hl
  · refine Or.inr ⟨b, off, rfl, fun j hj => hk.cell (h2 j hj) ?_⟩
    intro e
    have e2 : b = p := e
    subst e2
    have h3 := h2 0 (List.length_pos_iff.2 hl)
    have h4 : Blk w b _ _ := hrow
    rw [h4.cell] at h3
    obtain ⟨rfl, -⟩ := bv
    obtain ⟨m, hm⟩ : ∃ m, m = off + 0 := ⟨_, rfl⟩
    rw [← hm] at h3
    clear hm
    rcases m with _ | _ | _ | m
    · cases h3
    · cases h3
    · cases h3
    · simp at h3
set_option maxHeartbeats 1000000 in
theorem l4OfO (s : ByteArray) (w : World) (hs : s.size ≤ 10000000) :
    Calls Tryz.prog 72 #[.string s] w fun e w' => ∃ u, e = .returned (.agg #[u]) ∧ Row.Holds Value.string w' u (Row.pN s) ∧ Below w.heap.size w w' := by
  have HB0 := Lib.hid ((Below.refl w.heap.size w).alloc (Nat.le_refl _) (.cells #[.slice none 0 0] 26))
  have HX0 := Lib.hid (Box.new w (.slice none 0 0) 26)
  have HP := Lib.hid (Row.specParseName s (w.alloc (.cells #[.slice none 0 0] 26)) hs)
  go_enter Tryz.func72, Tryz.ntmps72
  go_wp2_with fail
  refine HP.out.mono ?_
  rintro e w1 ⟨u, rfl, ho, hb⟩
  obtain ⟨x, n, c, rfl, -, -, ho⟩ := ho.shapeN
  have ha := (Below.refl w1.heap.size w1).alloc (Nat.le_refl _) (.cells #[.slice x n c] 26)
  have HX1 := Lib.hid ((HX0.out.on hb).on ha)
  have HO1 := Lib.hid (ho.on ha)
  have hq := (Box.new w1 (.slice x n c) 26).cell
  have hz := HX1.out.cell
  have hf := HX1.out.frozen
  have HBF := Lib.hid ((HB0.out.trans (hb.mono HB0.out.size)).trans (ha.mono (Nat.le_trans HB0.out.size hb.size)))
  have HW := Lib.hid (HBF.out.grown (Ret.grownBy_set _ ⟨w.heap.size, 0, none⟩ (.slice x n c)) HBF.out.size (fun g hg => by cases hg; exact Nat.le_refl _))
  have HH := Lib.hid (holdS_set (i := 0) (u := .slice x n c) HO1.out HX1.out (noStr1 _ _ _))
  have HC := Lib.hid (Ret.set_same (v := .slice x n c) HX1.out.cell)
  clear ha ho hb
  go_wp2_with fail
  refine bodyPost_ret (Ret.results_c rfl _ _ w.heap.size [_] rfl Row.aggN (Ret.one HC.out)) rfl ?_
  exact ⟨_, rfl, HH.out, HW.out⟩
theorem signV (xa xb xc : Option Addr) (na ca nb cb nc cc : Nat) (x : Dt) (t : Int) (w : World) (h : DHold w (.slice xa na ca) (.slice xb nb cb) (.slice xc nc cc) x) (hB : Sl.Byt x.2.1) (hl : bulkD x ≤ 1200000) :
    Calls Tryz.prog 18 #[.int .i64 t, .agg #[.slice xa na ca, .slice xb nb cb, .slice xc nc cc, .int .i64 x.2.2.2.1, .int .i64 x.2.2.2.2]] w fun e w' => ∃ ya ma da yb mb db yc mc dc_, ∃ M : Int, e = .returned (.agg #[.slice ya ma da, .slice yb mb db, .slice yc mc dc_, .int .i64 x.2.2.2.1, .int .i64 M]) ∧ DO3 w.heap.size w' (.slice ya ma da) (.slice yb mb db) (.slice yc mc dc_) (x.1, x.2.1, x.2.2.1, x.2.2.2.1, M) ∧ M = Seal.mac t (Row.portD x) ∧ Below w.heap.size w w' := by
  refine (Row.specSignData _ _ _ x t w h hB hl).mono ?_
  rintro e w' ⟨a, b, c, rfl, ho, hb⟩
  obtain ⟨ya, ma, da, yb, mb, db, yc, mc, dc_, rfl, rfl, rfl⟩ := ho.hold.shape
  exact ⟨ya, ma, da, yb, mb, db, yc, mc, dc_, _, rfl, DO3.of ho, rfl, hb⟩
end Go.Proofs.YtbooamnlocobfaaGreat.Draw
