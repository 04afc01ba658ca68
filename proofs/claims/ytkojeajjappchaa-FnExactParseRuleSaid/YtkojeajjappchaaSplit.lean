/- Contracts of the functions that split a text at its slashes, the program's (without the empty pieces, rune by rune) and the reference model's (all pieces, byte by byte). No conditions but that lengths fit. -/
import Derived.Test.YtkojeajjappchaaNameMath
import Derived.Test.YtkojeajjappchaaLibS
import Derived.Lib.OthersKept
namespace Go.Proofs.Ytkojeajjappchaa.Row
open Go.ChangeShapes Go.WideShapes Go.ChangeAt Go.RowKit Go.Instr
set_option linter.unusedVariables false
set_option maxRecDepth 100000

theorem natne {a b : Nat} (h : a ≠ b) : ((a : Int) == (b : Int)) = false := beq_eq_false_iff_ne.2 (by omega)
theorem nat47 {x : Nat} (h : x ≠ 47) : ((x : Int) == 47) = false := beq_eq_false_iff_ne.2 (by omega)
theorem byte47 {c : UInt8} : c = 47 ↔ c.toNat = 47 := by
  constructor
  · rintro rfl; rfl
  · intro h; apply UInt8.toNat_inj.1; rw [h]; rfl

/-- Where the reference model's loop stands: the pieces so far, and the rest. -/
def SpI (s : ByteArray) (k f : Nat) (L : List ByteArray) : Prop :=
  (k ≤ s.size → splitB s = L ++ (goS (seg s f k) (rest s k)).map mk) ∧ (k = s.size + 1 → splitB s = L)
theorem SpI.start (s : ByteArray) : SpI s 0 0 [] := ⟨fun _ => by unfold splitB; rw [seg_self]; rfl, fun h => by omega⟩
theorem SpI.cut {s : ByteArray} {k f : Nat} {L : List ByteArray} (h : SpI s k f L) (hk : k ≤ s.size) (hf : f ≤ k) (hc : ∀ h : k < s.size, s[k]'h = 47) : SpI s (k + 1) (k + 1) (L ++ [s.extract f k]) := by
  have h1 := h.1 hk
  by_cases hl : k < s.size
  · rw [goS_slash s hl (hc hl)] at h1
    refine ⟨fun _ => ?_, fun e => by omega⟩
    rw [h1, extract_seg]; simp
  · obtain rfl : k = s.size := by omega
    rw [goS_end] at h1
    refine ⟨fun e => by omega, fun _ => ?_⟩
    rw [h1, extract_seg]; simp
theorem SpI.on {s : ByteArray} {k f : Nat} {L : List ByteArray} (h : SpI s k f L) (hf : f ≤ k) (hl : k < s.size) (hc : s[k]'hl ≠ 47) : SpI s (k + 1) f L := by
  have h1 := h.1 (by omega)
  rw [goS_byte s hf hl hc] at h1
  exact ⟨fun _ => h1, fun e => by omega⟩

set_option maxHeartbeats 2000000 in
theorem l4Split (s : ByteArray) (w : World) (hs : s.size ≤ 10000000) :
    Calls Try.prog 53 #[.string s, .int .u8 47] w (GivesS w (splitB s)) := by
  have H0 := Lib.hid (own_empty Value.string 9 w)
  have B0 := Lib.hid ((Below.refl w.heap.size w).alloc (Nat.le_refl _) (.cells #[] 9))
  go_enter Try.func53, Try.ntmps53
  go_wp2_with fail
  go_loopw [5, 6, 7] (fun rv fv iv wr => ∃ (k f m : Nat) (L : List ByteArray), k ≤ s.size + 1 ∧ f ≤ k ∧ m ≤ k ∧ iv = .int .i64 k ∧ fv = .int .i64 f ∧ Hid (L.length = m) ∧ Hid (Own 9 Value.string w.heap.size wr rv L) ∧ Hid (Below w.heap.size w wr) ∧ Hid (SpI s k f L)) (fun _ _ iv _ => s.size + 1 - (intOf iv).toNat)
  case atStart => exact ⟨0, 0, 0, [], by omega, Nat.le_refl _, Nat.le_refl _, rfl, rfl, Lib.hid rfl, H0, B0, Lib.hid (SpI.start s)⟩
  case round =>
    obtain ⟨k, f, m, L, hk, hf, hm, rfl, rfl, hL, ho, hb, hI⟩ := hrel
    by_cases hle : k ≤ s.size
    · by_cases hcut : ∀ h : k < s.size, s[k]'h = 47
      · have HI2 := Lib.hid (hI.out.cut hle hf hcut)
        have HO := Lib.hid (ho.out.on ((Below.refl _ _).alloc (Nat.le_refl _) (.cells #[.string (s.extract f k)] 9)))
        have HL2 := Lib.hid (show (L ++ [s.extract f k]).length = m + 1 by rw [List.length_append, hL.out]; rfl)
        have hlm : (L.length + [s.extract f k].length) * 16 ≤ 140737488355328 := by rw [hL.out]; simp; omega
        have hlx : L.length + [s.extract f k].length ≤ maxLen := by rw [hL.out]; unfold maxLen; simp; omega
        have HLM := Lib.hid hlm; have HLX := Lib.hid hlx
        clear hlm hlx
        by_cases hlt : k < s.size
        · have hne : ((k : Int) == (s.size : Int)) = false := natne (Nat.ne_of_lt hlt)
          have hb47 : (((s[k]'hlt).toNat : Int) == 47) = true := by
            have := byte47.1 (hcut hlt)
            rw [this]; rfl
          clear hcut
          go_wp2_with (at_builtin; refine wpList_app (enc := Value.string) (B := w.heap.size) (l := L) (m := [s.extract f k]) rfl _ _ rfl Try.underlying22 elemSTR rfl rfl rfl HO.out (holds_one Value.string 9 _ _) oneStr HLM.out HLX.out (Nat.le_trans hb.out.size (by simp)) ?_)
          intro v2 w2 ho2 hg2
          have HO2 := Lib.hid ho2
          have HB2 := Lib.hid ((hb.out.alloc hb.out.size (.cells #[.string (s.extract f k)] 9)).grown hg2 (Nat.le_trans hb.out.size (by simp)) (fun g hh => (HO.out.lt g hh).1))
          clear ho2 hg2
          go_wp2_with fail
          go_roundw
          case rel => exact ⟨k + 1, k + 1, m + 1, _, by omega, Nat.le_refl _, by omega, by go_num, by go_num, HL2, HO2, HB2, HI2⟩
          case measure => simp [intOf]; omega
        · obtain rfl : k = s.size := by omega
          clear hcut
          go_wp2_with (at_builtin; refine wpList_app (enc := Value.string) (B := w.heap.size) (l := L) (m := [s.extract f s.size]) rfl _ _ rfl Try.underlying22 elemSTR rfl rfl rfl HO.out (holds_one Value.string 9 _ _) oneStr HLM.out HLX.out (Nat.le_trans hb.out.size (by simp)) ?_)
          intro v2 w2 ho2 hg2
          have HO2 := Lib.hid ho2
          have HB2 := Lib.hid ((hb.out.alloc hb.out.size (.cells #[.string (s.extract f s.size)] 9)).grown hg2 (Nat.le_trans hb.out.size (by simp)) (fun g hh => (HO.out.lt g hh).1))
          clear ho2 hg2
          go_wp2_with fail
          go_roundw
          case rel => exact ⟨s.size + 1, s.size + 1, m + 1, _, by omega, Nat.le_refl _, by omega, by go_num, by go_num, HL2, HO2, HB2, HI2⟩
          case measure => simp [intOf]
      · have hlt : k < s.size := by
          by_cases h : k < s.size
          · exact h
          · exact absurd (fun h2 => absurd h2 h) hcut
        have hc : s[k]'hlt ≠ 47 := fun e => hcut (fun _ => e)
        have HI2 := Lib.hid (hI.out.on hf hlt hc)
        have hne : ((k : Int) == (s.size : Int)) = false := natne (Nat.ne_of_lt hlt)
        have hb47 : (((s[k]'hlt).toNat : Int) == 47) = false := nat47 (fun e => hc (byte47.2 e))
        clear hcut hc
        go_wp2_with fail
        go_roundw
        case rel => exact ⟨k + 1, f, m, L, by omega, by omega, by omega, by go_num, rfl, hL, ho, hb, HI2⟩
        case measure => simp [intOf]; omega
    · obtain rfl : k = s.size + 1 := by omega
      have HE := Lib.hid (hI.out.2 rfl)
      clear hle
      go_wp2_with fail
      go_ret
      exact ⟨_, rfl, by rw [HE.out]; exact ho.out, hb.out⟩

theorem iterPos_of {w : World} {k : Nat} {s : ByteArray} {p : Nat} (h : w.heap[k]? = some (.stringIter s p)) : w.iterPos k = p := by simp [World.iterPos, h]
/-! ### the program's way: rune by rune, over the text with a slash behind it -/
theorem grownBy_iterAt (w : World) (k : Nat) (s : ByteArray) (pos : Nat) : w.grownBy (w.iterAt k s pos) (some k) :=
  ⟨rfl, rfl, rfl, by rw [Lib.iterAt_size]; exact Nat.le_refl _, fun i hi hne => Lib.iterAt_other w k i s pos (fun e => hne (by rw [e]))⟩
theorem Own.noIter {α : Type} [Inhabited α] {enc : α → Value} {e : TypeId} {B : Nat} {w : World} {v : Value} {l : List α} (h : Own e enc B w v l) {k : Nat} {s : ByteArray} {pos : Nat} (hk : w.heap[k]? = some (.stringIter s pos)) : v.ownBlock ≠ some k := by
  rcases h.2 with ⟨rfl, _⟩ | ⟨g, cap, cur, rfl, _, hg, _⟩
  · simp [Value.ownBlock]
  · intro e1
    have : g = k := by simpa [Value.ownBlock] using e1
    rw [this, hk] at hg
    cases hg
theorem Own.iterAt {α : Type} [Inhabited α] {enc : α → Value} {e : TypeId} {B : Nat} {w : World} {v : Value} {l : List α} (h : Own e enc B w v l) {k : Nat} {s : ByteArray} {pos : Nat} (hk : w.heap[k]? = some (.stringIter s pos)) (pos' : Nat) : Own e enc B (w.iterAt k s pos') v l :=
  h.grown (grownBy_iterAt w k s pos') (Or.inr (h.noIter hk))
theorem slash_size (s : ByteArray) : (s ++ { data := #[47] }).size = s.size + 1 := by rw [ByteArray.size_append]; rfl
theorem slash_lt (s : ByteArray) {i : Nat} (h : i < s.size) (h2 : i < (s ++ { data := #[47] }).size) : (s ++ { data := #[47] })[i]'h2 = s[i]'h := by
  rw [← bl_get _ i h2, ← bl_get s i h]
  simp only [bl_append]
  rw [List.getElem_append_left]
theorem slash_end (s : ByteArray) (h2 : s.size < (s ++ { data := #[47] }).size) : (s ++ { data := #[47] })[s.size]'h2 = 47 := by
  rw [← bl_get _ s.size h2]
  simp only [bl_append]
  rw [List.getElem_append_right (by rw [bl_length]; exact Nat.le_refl _)]
  simp [bl]
/-- A slash among the runes is a slash among the bytes. -/
theorem rune47 {t : ByteArray} {pos : Nat} (h : pos < t.size) : (Utf8.decode t pos).1 = 47 ↔ t[pos]'h = 47 := by
  by_cases ha : (t[pos]'h).toNat < 128
  · rw [decode_ascii t pos h ha, byte47]
  · have h1 := (decode_high t pos h (by omega)).1
    constructor
    · intro e; omega
    · intro e; rw [byte47] at e; omega
theorem rune47_width {t : ByteArray} {pos : Nat} (h : pos < t.size) (e : t[pos]'h = 47) : (Utf8.decode t pos).2 = 1 := by
  rw [byte47] at e
  rw [decode_ascii t pos h (by omega)]
theorem width_pos' (t : ByteArray) {pos : Nat} (h : pos < t.size) : 1 ≤ (Utf8.decode t pos).2 := by
  by_cases ha : (t[pos]'h).toNat < 128
  · rw [decode_ascii t pos h ha]; exact Nat.le_refl _
  · exact (decode_high t pos h (by omega)).2
/-- A rune that is no slash: none of its bytes is one, and it ends before the text does. -/
theorem rune_run (s : ByteArray) {pos : Nat} (h : pos < (s ++ { data := #[47] }).size) (hr : (Utf8.decode (s ++ { data := #[47] }) pos).1 ≠ 47) :
    ∃ hm : pos + (Utf8.decode (s ++ { data := #[47] }) pos).2 ≤ s.size, ∀ j (hj : j < (Utf8.decode (s ++ { data := #[47] }) pos).2), s[pos + j]'(by omega) ≠ 47 := by
  have hsz := slash_size s
  have hbyte : ∀ j, j < (Utf8.decode (s ++ { data := #[47] }) pos).2 → ∃ hq : pos + j < (s ++ { data := #[47] }).size, (s ++ { data := #[47] })[pos + j]'hq ≠ 47 := by
    intro j hj
    by_cases h0 : j = 0
    · subst h0
      exact ⟨h, fun e => hr ((rune47 h).2 e)⟩
    · obtain ⟨hq, hb⟩ := decode_cont _ pos j (by omega) hj
      exact ⟨hq, fun e => by rw [byte47] at e; omega⟩
  have hin : ∀ j, j < (Utf8.decode (s ++ { data := #[47] }) pos).2 → ∃ hq : pos + j < s.size, s[pos + j]'hq ≠ 47 := by
    intro j hj
    obtain ⟨hq, hne⟩ := hbyte j hj
    by_cases hl : pos + j < s.size
    · rw [slash_lt s hl hq] at hne
      exact ⟨hl, hne⟩
    · have he : pos + j = s.size := by omega
      exact absurd (by
        have := slash_end s (by omega)
        simp only [he]; exact this) hne
  have hw := width_pos' _ h
  obtain ⟨hl, _⟩ := hin ((Utf8.decode (s ++ { data := #[47] }) pos).2 - 1) (by omega)
  exact ⟨by omega, fun j hj => (hin j hj).2⟩

def SpN (s : ByteArray) (k f : Nat) (L : List ByteArray) : Prop :=
  (k ≤ s.size → partsB s = L ++ ((goS (seg s f k) (rest s k)).map mk).filter fullB) ∧ (k = s.size + 1 → partsB s = L)
theorem SpN.start (s : ByteArray) : SpN s 0 0 [] := ⟨fun _ => by unfold partsB splitB; rw [seg_self]; rfl, fun h => by omega⟩
theorem seg_full {s : ByteArray} {f k : Nat} (hf : f ≤ k) (hk : k ≤ s.size) : fullB (mk (seg s f k)) = decide (f < k) := by
  unfold fullB
  rw [mk_size, seg_length s hf hk]
  congr 1
  apply propext; omega
theorem SpN.cut {s : ByteArray} {k f : Nat} {L : List ByteArray} (h : SpN s k f L) (hk : k ≤ s.size) (hf : f ≤ k) (hc : ∀ h : k < s.size, s[k]'h = 47) : SpN s (k + 1) (k + 1) (if f < k then L ++ [s.extract f k] else L) := by
  have h1 := h.1 hk
  have hfull := seg_full (s := s) hf hk
  by_cases hl : k < s.size
  · rw [goS_slash s hl (hc hl), List.map_cons, List.filter_cons, hfull] at h1
    refine ⟨fun _ => ?_, fun e => by omega⟩
    rw [h1, extract_seg]
    by_cases hfk : f < k
    · simp [hfk]
    · simp [hfk]
  · obtain rfl : k = s.size := by omega
    rw [goS_end, List.map_cons, List.filter_cons, hfull] at h1
    refine ⟨fun e => by omega, fun _ => ?_⟩
    rw [h1, extract_seg]
    by_cases hfk : f < s.size
    · simp [hfk]
    · simp [hfk]
theorem SpN.on {s : ByteArray} {k f : Nat} {L : List ByteArray} (h : SpN s k f L) (hf : f ≤ k) {m : Nat} (h0 : 1 ≤ m) (hm : k + m ≤ s.size) (hc : ∀ j (hj : j < m), s[k + j]'(by omega) ≠ 47) : SpN s (k + m) f L := by
  have h1 := h.1 (by omega)
  rw [goS_bytes s hf m hm hc] at h1
  exact ⟨fun _ => h1, fun e => by omega⟩

set_option maxRecDepth 100000 in
set_option maxHeartbeats 2000000 in
theorem splitParts (s : ByteArray) (w : World) (hs : s.size ≤ 10000000) :
    Calls Try.prog 77 #[.string s] w (GivesS w (partsB s)) := by
  have H0 := Lib.hid ((own_empty Value.string 9 w).on ((Below.refl _ _).alloc (Nat.le_refl _) (.stringIter (s ++ { data := #[47] }) 0)))
  have B0 := Lib.hid (((Below.refl w.heap.size w).alloc (Nat.le_refl _) (.cells #[] 9)).alloc (by simp) (.stringIter (s ++ { data := #[47] }) 0))
  have I0 := Lib.hid (show ((w.alloc (.cells #[] 9)).alloc (.stringIter (s ++ { data := #[47] }) 0)).heap[w.heap.size + 1]? = some (.stringIter (s ++ { data := #[47] }) 0) by
    have := World.iter_heap (w.alloc (.cells #[] 9)) (s ++ { data := #[47] }) 0
    simpa [World.iter] using this)
  have HZ := Lib.hid (slash_size s)
  go_enter Try.func77, Try.ntmps77
  go_wp2_with fail
  go_loopw [3, 4] (fun rv fv wr => ∃ (k f m : Nat) (L : List ByteArray), k ≤ s.size + 1 ∧ f ≤ k ∧ m ≤ k ∧ fv = .int .i64 f ∧ wr.iterPos (w.heap.size + 1) = k ∧ Hid (wr.heap[w.heap.size + 1]? = some (.stringIter (s ++ { data := #[47] }) k)) ∧ Hid (L.length = m) ∧ Hid (Own 9 Value.string w.heap.size wr rv L) ∧ Hid (Below w.heap.size w wr) ∧ Hid (SpN s k f L)) (fun _ _ wr => s.size + 1 - wr.iterPos (w.heap.size + 1))
  case atStart => exact ⟨0, 0, 0, [], by omega, Nat.le_refl _, Nat.le_refl _, rfl, iterPos_of I0.out, I0, Lib.hid rfl, H0, B0, Lib.hid (SpN.start s)⟩
  case round =>
    obtain ⟨k, f, m, L, hk, hf, hm, rfl, hpos, hit, hL, ho, hb, hI⟩ := hrel
    have HP := Lib.hid hpos
    clear hpos
    by_cases hle : k ≤ s.size
    · have hlt : k < (s ++ { data := #[47] }).size := by rw [HZ.out]; omega
      have hnx : ∀ ty, (Instr.next (.pointer (some ⟨w.heap.size + 1, 0, none⟩)) true ty).run Try.prog wr = _ := fun ty => Lib.run_next_any_at wr (w.heap.size + 1) (s ++ { data := #[47] }) k ty hit.out hlt
      have HB1 := Lib.hid (Lib.below_iterAt hb.out (k := w.heap.size + 1) (by omega) (s ++ { data := #[47] }) (k + (Utf8.decode (s ++ { data := #[47] }) k).2))
      have HO1 := Lib.hid (ho.out.iterAt hit.out (k + (Utf8.decode (s ++ { data := #[47] }) k).2))
      have HI1 := Lib.hid (Lib.iterAt_heap wr (w.heap.size + 1) (s ++ { data := #[47] }) k (k + (Utf8.decode (s ++ { data := #[47] }) k).2) hit.out)
      by_cases hr : (Utf8.decode (s ++ { data := #[47] }) k).1 = 47
      · have he47 := (rune47 hlt).1 hr
        have hw1 := rune47_width hlt he47
        have hcut : ∀ h : k < s.size, s[k]'h = 47 := fun h => by rw [← slash_lt s h hlt]; exact he47
        have HI2 := Lib.hid (hI.out.cut hle hf hcut)
        have hrb : (((Utf8.decode (s ++ { data := #[47] }) k).1 : Int) != 47) = false := by rw [hr]; rfl
        rw [hw1] at hnx HB1 HO1 HI1
        clear he47 hw1 hcut hr
        by_cases hfk : f < k
        · have HI3 := Lib.hid (show SpN s (k + 1) (k + 1) (L ++ [s.extract f k]) by have := HI2.out; rwa [if_pos hfk] at this)
          have HO := Lib.hid (HO1.out.on ((Below.refl _ _).alloc (Nat.le_refl _) (.cells #[.string (s.extract f k)] 9)))
          have HL2 := Lib.hid (show (L ++ [s.extract f k]).length = m + 1 by rw [List.length_append, hL.out]; rfl)
          have HLM := Lib.hid (show (L.length + [s.extract f k].length) * 16 ≤ 140737488355328 by rw [hL.out]; simp; omega)
          have HLX := Lib.hid (show L.length + [s.extract f k].length ≤ maxLen by rw [hL.out]; unfold maxLen; simp; omega)
          go_wp2_with (at_builtin; refine wpList_app (enc := Value.string) (B := w.heap.size) (l := L) (m := [s.extract f k]) rfl _ _ rfl Try.underlying22 elemSTR rfl rfl rfl HO.out (holds_one Value.string 9 _ _) oneStr HLM.out HLX.out (Nat.le_trans HB1.out.size (by simp)) ?_)
          intro v2 w2 ho2 hg2
          have HO2 := Lib.hid ho2
          have HB2 := Lib.hid ((HB1.out.alloc HB1.out.size (.cells #[.string (s.extract f k)] 9)).grown hg2 (Nat.le_trans HB1.out.size (by simp)) (fun g hh => (HO.out.lt g hh).1))
          have HIT := Lib.hid (show w2.heap[w.heap.size + 1]? = some (.stringIter (s ++ { data := #[47] }) (k + 1)) by
            rw [hg2.block (w.heap.size + 1) (by have := (Array.getElem?_eq_some_iff.1 HI1.out).1; simp; omega) (fun e => (HO1.out.noIter HI1.out) e.symm)]
            exact ((Below.refl _ _).alloc (Nat.le_refl _) _).block (w.heap.size + 1) (Array.getElem?_eq_some_iff.1 HI1.out).1 |>.trans HI1.out)
          clear ho2 hg2
          have HQ := Lib.hid (iterPos_of HIT.out)
          go_wp2_with fail
          go_roundw
          case rel => exact ⟨k + 1, k + 1, m + 1, _, by omega, Nat.le_refl _, by omega, by go_num, HQ.out, HIT, HL2, HO2, HB2, HI3⟩
          case measure => rw [HQ.out, HP.out]; omega
        · have HI3 := Lib.hid (show SpN s (k + 1) (k + 1) L by have := HI2.out; rwa [if_neg hfk] at this)
          have HQ := Lib.hid (iterPos_of HI1.out)
          go_wp2_with fail
          go_roundw
          case rel => exact ⟨k + 1, k + 1, m, L, by omega, Nat.le_refl _, by omega, by go_num, HQ.out, HI1, hL, HO1, HB1, HI3⟩
          case measure => rw [HQ.out, HP.out]; omega
      · obtain ⟨hm2, hall⟩ := rune_run s hlt hr
        have hwp := width_pos' _ hlt
        have HI2 := Lib.hid (hI.out.on hf hwp hm2 hall)
        have hrb : (((Utf8.decode (s ++ { data := #[47] }) k).1 : Int) != 47) = true := by
          have : (((Utf8.decode (s ++ { data := #[47] }) k).1 : Int)) ≠ 47 := by omega
          simpa using this
        clear hall hr
        have HQ := Lib.hid (iterPos_of HI1.out)
        go_wp2_with fail
        go_roundw
        case rel => exact ⟨k + (Utf8.decode (s ++ { data := #[47] }) k).2, f, m, L, by omega, by omega, by omega, rfl, HQ.out, HI1, hL, HO1, HB1, HI2⟩
        case measure => rw [HQ.out, HP.out]; omega
    · obtain rfl : k = s.size + 1 := by omega
      have HE := Lib.hid (hI.out.2 rfl)
      have hnx : ∀ ty, (Instr.next (.pointer (some ⟨w.heap.size + 1, 0, none⟩)) true ty).run Try.prog wr = _ := fun ty => Lib.run_next_end_at wr (w.heap.size + 1) (s ++ { data := #[47] }) (s.size + 1) ty hit.out (by rw [HZ.out]; omega)
      clear hle
      go_wp2_with fail
      go_ret
      exact ⟨_, rfl, by rw [HE.out]; exact ho.out, hb.out⟩

end Go.Proofs.Ytkojeajjappchaa.Row
