/- Contracts and mathematics, joined: SplitSp, RuleT, RuleP, RuleS, HBP, DrawU1, Gives, DrawB, Want. No conditions but those that each states. -/
import Derived.Test.YtlhchmjnaanjpaaGreatDoorB4
import Derived.Lib.IndexMore
import Derived.Test.YtlhchmjnaanjpaaGreatDoorB8
import Derived.WalkKit
import Derived.Deep.RegionHeld3
import Derived.Shelf.Vars
import Derived.Test.YtlhchmjnaanjpaaGreatDoorB6
import Derived.Test.YtlhchmjnaanjpaaGreatDoorB5
import Derived.Test.YtlhchmjnaanjpaaGreatDoorB2
import Derived.LoopTactic
import Derived.Test.YtlhchmjnaanjpaaGreatDoorB3
/- The reference model's split of a text at its spaces. No conditions but that lengths fit. -/
namespace Go.Proofs.YtlhchmjnaanjpaaGreatDoor.Row.Sp
open Go.ChangeShapes Go.WideShapes Go.ChangeAt Go.RowKit Go.Instr
set_option linter.unusedVariables false
set_option maxRecDepth 100000
def goS (cur : List UInt8) : List UInt8 → List (List UInt8)
  | [] => [cur]
  | c :: t => if c = 32 then cur :: goS [] t else goS (cur ++ [c]) t
theorem goS_slash (s : ByteArray) {f i : Nat} (h : i < s.size) (hc : s[i]'h = 32) : goS (seg s f i) (rest s i) = seg s f i :: goS (seg s (i + 1) (i + 1)) (rest s (i + 1)) := by
  rw [rest_cons s h, goS, if_pos hc, seg_self]
theorem goS_byte (s : ByteArray) {f i : Nat} (hf : f ≤ i) (h : i < s.size) (hc : s[i]'h ≠ 32) : goS (seg s f i) (rest s i) = goS (seg s f (i + 1)) (rest s (i + 1)) := by
  rw [rest_cons s h, goS, if_neg hc, seg_succ s hf h]
theorem goS_end (s : ByteArray) (f : Nat) : goS (seg s f s.size) (rest s s.size) = [seg s f s.size] := by rw [rest_end]; rfl
def splitB (s : ByteArray) : List ByteArray := (goS [] (bl s)).map mk
theorem nat32 {x : Nat} (h : x ≠ 32) : ((x : Int) == 32) = false := beq_eq_false_iff_ne.2 (by omega)
theorem byte32 {c : UInt8} : c = 32 ↔ c.toNat = 32 := by
  constructor
  · rintro rfl; rfl
  · intro h; apply UInt8.toNat_inj.1; rw [h]; rfl
def SpI (s : ByteArray) (k f : Nat) (L : List ByteArray) : Prop :=
  (k ≤ s.size → splitB s = L ++ (goS (seg s f k) (rest s k)).map mk) ∧ (k = s.size + 1 → splitB s = L)
theorem SpI.start (s : ByteArray) : SpI s 0 0 [] := ⟨fun _ => by unfold splitB; rw [seg_self]; rfl, fun h => by omega⟩
theorem SpI.cut {s : ByteArray} {k f : Nat} {L : List ByteArray} (h : SpI s k f L) (hk : k ≤ s.size) (hf : f ≤ k) (hc : ∀ h : k < s.size, s[k]'h = 32) : SpI s (k + 1) (k + 1) (L ++ [s.extract f k]) := by
  have h1 := h.1 hk
  by_cases hl : k < s.size
  · rw [goS_slash s hl (hc hl)] at h1
    refine ⟨fun _ => ?_, fun e => by omega⟩
    rw [h1, extract_seg]; simp
  · obtain rfl : k = s.size := by omega
    rw [goS_end] at h1
    refine ⟨fun e => by omega, fun _ => ?_⟩
    rw [h1, extract_seg]; simp
theorem SpI.on {s : ByteArray} {k f : Nat} {L : List ByteArray} (h : SpI s k f L) (hf : f ≤ k) (hl : k < s.size) (hc : s[k]'hl ≠ 32) : SpI s (k + 1) f L := by
  have h1 := h.1 (by omega)
  rw [goS_byte s hf hl hc] at h1
  exact ⟨fun _ => h1, fun e => by omega⟩
set_option maxHeartbeats 2000000 in
theorem l4Split (s : ByteArray) (w : World) (hs : s.size ≤ 10000000) :
    Calls Tryz.prog 139 #[.string s, .int .u8 32] w (GivesS w (splitB s)) := by
  have H0 := Lib.hid (own_empty Value.string 9 w)
  have B0 := Lib.hid ((Below.refl w.heap.size w).alloc (Nat.le_refl _) (.cells #[] 9))
  go_enter Tryz.func139, Tryz.ntmps139
  go_wp2_with fail
  go_loopw [5, 6, 7] (fun rv fv iv wr => ∃ (k f m : Nat) (L : List ByteArray), k ≤ s.size + 1 ∧ f ≤ k ∧ m ≤ k ∧ iv = .int .i64 k ∧ fv = .int .i64 f ∧ Hid (L.length = m) ∧ Hid (Own 9 Value.string w.heap.size wr rv L) ∧ Hid (Below w.heap.size w wr) ∧ Hid (SpI s k f L)) (fun _ _ iv _ => s.size + 1 - (intOf iv).toNat)
  case atStart => exact ⟨0, 0, 0, [], by omega, Nat.le_refl _, Nat.le_refl _, rfl, rfl, Lib.hid rfl, H0, B0, Lib.hid (SpI.start s)⟩
  case round =>
    obtain ⟨k, f, m, L, hk, hf, hm, rfl, rfl, hL, ho, hb, hI⟩ := hrel
    by_cases hle : k ≤ s.size
    · by_cases hcut : ∀ h : k < s.size, s[k]'h = 32
      · have HI2 := Lib.hid (hI.out.cut hle hf hcut)
        have HO := Lib.hid (ho.out.on ((Below.refl _ _).alloc (Nat.le_refl _) (.cells #[.string (s.extract f k)] 9)))
        have HL2 := Lib.hid (show (L ++ [s.extract f k]).length = m + 1 by rw [List.length_append, hL.out]; rfl)
        have hlm : (L.length + [s.extract f k].length) * 16 ≤ 140737488355328 := by rw [hL.out]; simp; omega
        have hlx : L.length + [s.extract f k].length ≤ maxLen := by rw [hL.out]; unfold maxLen; simp; omega
        have HLM := Lib.hid hlm; have HLX := Lib.hid hlx
        clear hlm hlx
        by_cases hlt : k < s.size
        · have hne : ((k : Int) == (s.size : Int)) = false := natne (Nat.ne_of_lt hlt)
          have hb32 : (((s[k]'hlt).toNat : Int) == 32) = true := by
            have := byte32.1 (hcut hlt)
            rw [this]; rfl
          clear hcut
          go_wp2_with (at_builtin; refine wpList_app (enc := Value.string) (B := w.heap.size) (l := L) (m := [s.extract f k]) rfl _ _ rfl Tryz.underlying30 elemSTR rfl rfl rfl HO.out (holds_one Value.string 9 _ _) oneStr HLM.out HLX.out (Nat.le_trans hb.out.size (by simp)) ?_)
          intro v2 w2 ho2 hg2
          have HO2 := Lib.hid ho2
          have HB2 := Lib.hid ((hb.out.alloc hb.out.size (.cells #[.string (s.extract f k)] 9)).grown hg2 (Nat.le_trans hb.out.size (by simp)) (fun g hh => (HO.out.lt g hh).1))
          clear ho2 hg2
          go_wp2_with fail
          go_roundw
          case rel => exact ⟨k + 1, k + 1, m + 1, _, by omega, Nat.le_refl _, by omega, by go_num, by go_num, HL2, HO2, HB2, HI2⟩
          case measure => simp [intOf]; omega
        · obtain rfl : k = s.size := by omega
          clear hcut
          go_wp2_with (at_builtin; refine wpList_app (enc := Value.string) (B := w.heap.size) (l := L) (m := [s.extract f s.size]) rfl _ _ rfl Tryz.underlying30 elemSTR rfl rfl rfl HO.out (holds_one Value.string 9 _ _) oneStr HLM.out HLX.out (Nat.le_trans hb.out.size (by simp)) ?_)
          intro v2 w2 ho2 hg2
          have HO2 := Lib.hid ho2
          have HB2 := Lib.hid ((hb.out.alloc hb.out.size (.cells #[.string (s.extract f s.size)] 9)).grown hg2 (Nat.le_trans hb.out.size (by simp)) (fun g hh => (HO.out.lt g hh).1))
          clear ho2 hg2
          go_wp2_with fail
          go_roundw
          case rel => exact ⟨s.size + 1, s.size + 1, m + 1, _, by omega, Nat.le_refl _, by omega, by go_num, by go_num, HL2, HO2, HB2, HI2⟩
          case measure => simp [intOf]
      · have hlt : k < s.size := by
          by_cases h : k < s.size
          · exact h
          · exact absurd (fun h2 => absurd h2 h) hcut
        have hc : s[k]'hlt ≠ 32 := fun e => hcut (fun _ => e)
        have HI2 := Lib.hid (hI.out.on hf hlt hc)
        have hne : ((k : Int) == (s.size : Int)) = false := natne (Nat.ne_of_lt hlt)
        have hb32 : (((s[k]'hlt).toNat : Int) == 32) = false := nat32 (fun e => hc (byte32.2 e))
        clear hcut hc
        go_wp2_with fail
        go_roundw
        case rel => exact ⟨k + 1, f, m, L, by omega, by omega, by omega, by go_num, rfl, hL, ho, hb, HI2⟩
        case measure => simp [intOf]; omega
    · obtain rfl : k = s.size + 1 := by omega
      have HE := Lib.hid (hI.out.2 rfl)
      clear hle
      go_wp2_with fail
      go_ret
      exact ⟨_, rfl, by rw [HE.out]; exact ho.out, hb.out⟩
end Go.Proofs.YtlhchmjnaanjpaaGreatDoor.Row.Sp
/- The mathematics of ParseRule: a text is cut at ' < ', or split at its spaces: the same pieces. No conditions. -/
namespace Go.Proofs.YtlhchmjnaanjpaaGreatDoor.Row
open Go.ChangeShapes Go.WideShapes Go.ChangeAt Go.RowKit Go.Instr
set_option linter.unusedVariables false
set_option maxRecDepth 100000
def freeS (l : List UInt8) : Prop := ∀ c ∈ l, c ≠ 32
theorem goSp_size : ∀ (t cur : List UInt8), ∀ p ∈ Sp.goS cur t, p.length ≤ cur.length + t.length
  | [], cur, p, hp => by rw [Sp.goS] at hp; rw [List.mem_singleton.1 hp]; simp
  | c :: t, cur, p, hp => by
    rw [Sp.goS] at hp
    by_cases hc : c = 32
    · rw [if_pos hc] at hp
      rcases List.mem_cons.1 hp with hp | hp
      · rw [hp]; omega
      · have := goSp_size t [] p hp; simp at this ⊢; omega
    · rw [if_neg hc] at hp
      have := goSp_size t _ p hp; simp at this ⊢; omega
theorem splitSp_size (s : ByteArray) : ∀ p ∈ Sp.splitB s, p.size ≤ s.size := fun p hp => by
  unfold Sp.splitB at hp
  obtain ⟨q, hq, rfl⟩ := List.mem_map.1 hp
  have := goSp_size _ _ q hq
  rw [mk_size, ← bl_length s]; simpa using this
def signL : List UInt8 := [32, 60, 32]
def prAB (a b : ByteArray) : Bool := ppOk a && ppOk b && validR (ppN a, ppN b)
def prOk (s : ByteArray) : Bool :=
  match Sp.splitB s with
  | [a, c, b] => decide (c = mk [60]) && prAB a b
  | _ => false
def prR (s : ByteArray) : Rlt :=
  match Sp.splitB s with
  | [a, c, b] => if (decide (c = mk [60]) && prAB a b) = true then (ppN a, ppN b) else ([], [])
  | _ => ([], [])
theorem pr_three {s a c b : ByteArray} (h : Sp.splitB s = [a, c, b]) : prOk s = (decide (c = mk [60]) && prAB a b) ∧ prR s = if (decide (c = mk [60]) && prAB a b) = true then (ppN a, ppN b) else ([], []) := by
  unfold prOk prR; rw [h]; exact ⟨rfl, rfl⟩
theorem pr_other {s : ByteArray} (h : (Sp.splitB s).length ≠ 3) : prOk s = false ∧ prR s = ([], []) := by
  unfold prOk prR
  rcases hs : Sp.splitB s with _ | ⟨a, _ | ⟨b, _ | ⟨c, _ | ⟨d, r⟩⟩⟩⟩
  · exact ⟨rfl, rfl⟩
  · exact ⟨rfl, rfl⟩
  · exact ⟨rfl, rfl⟩
  · rw [hs] at h; exact absurd rfl h
  · exact ⟨rfl, rfl⟩
theorem prR_no {s : ByteArray} (h : prOk s = false) : prR s = ([], []) := by
  by_cases hl : (Sp.splitB s).length = 3
  · rcases hs : Sp.splitB s with _ | ⟨a, _ | ⟨c, _ | ⟨b, _ | ⟨d, r⟩⟩⟩⟩ <;> (try (rw [hs] at hl; simp at hl))
    have := pr_three hs
    rw [this.1] at h
    rw [this.2, h]; rfl
  · exact (pr_other hl).2
theorem elem_size {s : ByteArray} {b : Bool} (h : elemP s b = true) : s.size ≤ 8 := by
  rcases elemP_iff.1 h with h | h | h | ⟨h, _⟩
  · exact (validP_iff.1 h).2.1
  · subst h; decide
  · have := (letterP_iff.1 h).1; omega
  · subst h; decide
theorem bulk_small9 : ∀ (l : List ByteArray), (∀ s ∈ l, s.size ≤ 8) → bulk l ≤ 9 * l.length
  | [], _ => by simp [bulk_nil]
  | x :: r, h => by
    have h1 := h x (by simp)
    have h2 := bulk_small9 r (fun s hs => h s (by simp [hs]))
    rw [bulk_cons, List.length_cons]; omega
theorem ppN_bulk (s : ByteArray) : bulk (ppN s) ≤ 54 := by
  have hv := validPat_iff.1 (pt_valid_pN s)
  have := bulk_small9 (ppN s) (fun x hx => by
    obtain ⟨j, hj, rfl⟩ := List.getElem_of_mem hx
    have := hv.2 j hj
    rw [nth_eq hj] at this
    exact elem_size this)
  omega
theorem wt_pp (a b : ByteArray) : wtRl (ppN a, ppN b) ≤ 9000000 := by
  have h1 := ppN_bulk a; have h2 := ppN_bulk b
  show bulk (ppN a) + bulk (ppN b) ≤ 9000000
  omega
end Go.Proofs.YtlhchmjnaanjpaaGreatDoor.Row
/- The program's chapter 10, its first part: ValidRule, ValidRules, FormatRule, EqualRules. No conditions but that lengths fit. -/
namespace Go.Proofs.YtlhchmjnaanjpaaGreatDoor.Row
open Go.ChangeShapes Go.WideShapes Go.ChangeAt Go.RowKit Go.Instr
set_option linter.unusedVariables false
set_option maxRecDepth 100000
set_option maxHeartbeats 1000000 in
theorem indexS (v : Value) (l : List ByteArray) (s : ByteArray) (w : World) (h : Holds Value.string w v l) (hl : bulk l ≤ 100000000) :
    Calls Tryz.prog 177 #[v, .string s] w fun e w' => ((hasP l s = true ∧ ∃ k : Nat, e = .returned (.int .i64 k)) ∨ (hasP l s = false ∧ e = .returned (.int .i64 (-1)))) ∧ w = w' := by
  obtain ⟨x, n, cap, rfl, hn, hcap, hh⟩ := h.shapeN
  have hll := bigLen hl
  rw [← hn] at hll
  have HN := Lib.hid hn
  have HH := Lib.hid hh
  clear hn h hh hl
  go_enter Tryz.func177, Tryz.ntmps177
  go_wp2
  go_loop [8] (fun iv => ∃ k : Nat, k ≤ n ∧ iv = .int .i64 k ∧ Hid (∀ j, j < k → ¬ nth l j = s)) (fun iv => n - (intOf iv).toNat)
  case atStart => exact ⟨0, Nat.zero_le _, rfl, Lib.hid (fun j hj => absurd hj (by omega))⟩
  case round =>
    obtain ⟨k, hk, rfl, ha⟩ := hrel
    by_cases hlt : k < n
    · have hlen := HN.out
      obtain ⟨b, off, rfl, hd⟩ := HH.out.at (j := k) (by omega)
      by_cases hq : nth l k = s
      · have HE : Hid (hasP l s = true) := Lib.hid (hasP_iff.2 (hq ▸ nth_mem (by omega)))
        have HQ := Lib.hid (tlB_true hq); have HQ2 := Lib.hid (tlB_true hq.symm)
        clear hlen hq
        have hq := HQ.out; have hq2 := HQ2.out
        go_wp2
        go_ret
        exact ⟨Or.inl ⟨HE.out, k, rfl⟩, rfl⟩
      · have HA := Lib.hid (show ∀ j, j < k + 1 → ¬ nth l j = s from fun j hj => by rcases Nat.lt_succ_iff_lt_or_eq.1 hj with h5 | h5; exact ha.out j h5; exact h5 ▸ hq)
        have HQ := Lib.hid (tlB_false hq); have HQ2 := Lib.hid (tlB_false (fun e => hq e.symm))
        clear hlen hq
        have hq := HQ.out; have hq2 := HQ2.out
        go_wp2
        go_round
        case rel => exact ⟨k + 1, by omega, by go_num, HA⟩
        case measure => simp [intOf]; omega
    · obtain rfl : k = n := by omega
      have HE : Hid (hasP l s = false) := Lib.hid (by
        refine hasP_no.2 fun hm => ?_
        obtain ⟨j, hj, e⟩ := List.getElem_of_mem hm
        exact ha.out j (by have := HN.out; omega) (by rw [nth_eq hj]; exact e))
      clear hlt
      go_wp2
      go_ret
      exact ⟨Or.inr ⟨HE.out, rfl⟩, rfl⟩
set_option maxHeartbeats 1000000 in
theorem containsS (v : Value) (l : List ByteArray) (s : ByteArray) (w : World) (z : Bool) (hz : hasP l s = z) (h : Holds Value.string w v l) (hl : bulk l ≤ 100000000) :
    Calls Tryz.prog 166 #[v, .string s] w fun e w' => e = .returned (.bool z) ∧ w = w' := by
  obtain ⟨x, n, cap, rfl, hn, hcap, hh⟩ := h.shapeN
  have HZ := Lib.hid hz; have HH := Lib.hid hh; have HL := Lib.hid hl
  clear hn h hh hz hl
  go_enter Tryz.func166, Tryz.ntmps166
  go_wp2_with fail
  refine (indexS _ l s _ HH.out HL.out).mono ?_
  rintro e w1 ⟨⟨hh, k, rfl⟩ | ⟨hh, rfl⟩, rfl⟩
  · have HE : Hid (z = true) := Lib.hid (HZ.out.symm.trans hh)
    clear hh
    go_wp2
    go_ret
    exact ⟨ret_bool HE.out.symm, rfl⟩
  · have HE : Hid (z = false) := Lib.hid (HZ.out.symm.trans hh)
    clear hh
    go_wp2
    go_ret
    exact ⟨ret_bool HE.out.symm, rfl⟩
theorem iPatV {v : Value} {l : List ByteArray} {w : World} (z : Bool) (hz : validPat l = z) (h : Holds Value.string w v l) (hl : bulk l ≤ 100000000) :
    Calls Tryz.prog 144 #[.agg #[v]] w fun e w' => e = .returned (.bool z) ∧ Below w.heap.size w w' := hz ▸ implValidPattern v l w h hl
def freeL (p : List ByteArray) (s : ByteArray) : Bool := letterP s && !hasP p s
theorem letters_free (p q : List ByteArray) : lettersIn p q = !(q.any (freeL p)) := by
  unfold lettersIn freeL
  induction q with
  | nil => rfl
  | cons a r ih => rw [List.all_cons, List.any_cons, ih]; cases letterP a <;> cases hasP p a <;> simp
set_option maxHeartbeats 1000000 in
theorem freeClos (s : ByteArray) (g : Nat) (x0 x1 : Option Addr) (n0 c0 n1 c1 : Nat) (p : List ByteArray) (w : World) (z : Bool) (hz : freeL p s = z) (hx : Ret.Blk w g #[.slice x0 n0 c0, .slice x1 n1 c1] 131) (h : Holds Value.string w (.slice x0 n0 c0) p) (hl : bulk p ≤ 100000000) (hs : s.size ≤ 140737488351232) :
    Calls Tryz.prog 164 #[.string s, .pointer (some ⟨g, 0, none⟩)] w fun e w' => e = .returned (.bool z) ∧ w = w' := by
  have HZ := Lib.hid hz; have HH := Lib.hid h; have HL := Lib.hid hl; have HX := Lib.hid hx
  clear hz h hl hx
  have q0 : w.cell? ⟨g, 0, none⟩ = some (.slice x0 n0 c0) := HX.out.cell 0
  go_enter Tryz.func164, Tryz.ntmps164
  go_wp2_with fail
  refine (isVariable s _ hs).mono ?_
  rintro e w1 ⟨rfl, rfl⟩
  cases ha : letterP s with
  | false =>
    have HE : Hid (z = false) := Lib.hid (by rw [← HZ.out]; unfold freeL; rw [ha]; rfl)
    clear ha
    go_wp2_with fail
    go_ret
    exact ⟨ret_bool HE.out.symm, rfl⟩
  | true =>
    obtain ⟨c, hc⟩ : ∃ c, hasP p s = c := ⟨_, rfl⟩
    have HE : Hid (z = !c) := Lib.hid (by rw [← HZ.out]; unfold freeL; rw [ha, hc]; rfl)
    have HC := Lib.hid hc
    clear ha hc
    go_wp2_with fail
    refine (containsS _ p s _ c HC.out HH.out HL.out).mono ?_
    rintro e w1 ⟨rfl, rfl⟩
    cases c <;> (go_wp2_with fail; go_ret; exact ⟨ret_bool HE.out.symm, rfl⟩)
set_option maxHeartbeats 1000000 in
theorem indexFree (v : Value) (q : List ByteArray) (g : Nat) (x0 x1 : Option Addr) (n0 c0 n1 c1 : Nat) (p : List ByteArray) (w : World) (z : Bool) (hz : q.any (freeL p) = z) (hx : Ret.Blk w g #[.slice x0 n0 c0, .slice x1 n1 c1] 131) (h : Holds Value.string w (.slice x0 n0 c0) p) (hq : Holds Value.string w v q) (hl : bulk p ≤ 100000000) (hql : bulk q ≤ 100000000) :
    Calls Tryz.prog 176 #[v, .func (.func 164) #[] #[.pointer (some ⟨g, 0, none⟩)]] w fun e w' => ((z = true ∧ ∃ k : Nat, e = .returned (.int .i64 k)) ∨ (z = false ∧ e = .returned (.int .i64 (-1)))) ∧ w = w' := by
  obtain ⟨x, n, cap, rfl, hn, hcap, hh⟩ := hq.shapeN
  have hll := bigLen hql
  rw [← hn] at hll
  have HSZ := Lib.hid (fun k (hk : k < q.length) => size_nth hql hk)
  have HN := Lib.hid hn; have HH := Lib.hid hh; have HX := Lib.hid hx; have HP := Lib.hid h; have HL := Lib.hid hl; have HZ := Lib.hid hz
  clear hn h hh hx hl hql hq hz
  go_enter Tryz.func176, Tryz.ntmps176
  go_wp2
  go_loop [8] (fun iv => ∃ k : Nat, k ≤ n ∧ iv = .int .i64 k ∧ Hid (∀ j, j < k → freeL p (nth q j) = false)) (fun iv => n - (intOf iv).toNat)
  case atStart => exact ⟨0, Nat.zero_le _, rfl, Lib.hid (fun j hj => absurd hj (by omega))⟩
  case round =>
    obtain ⟨k, hk, rfl, ha⟩ := hrel
    by_cases hlt : k < n
    · have hlen := HN.out
      obtain ⟨b, off, rfl, hd⟩ := HH.out.at (j := k) (by omega)
      have hsz := HSZ.out k (by omega)
      obtain ⟨c, hc⟩ : ∃ c, freeL p (nth q k) = c := ⟨_, rfl⟩
      have HC := Lib.hid hc
      have HCL := Lib.hid (freeClos (nth q k) g x0 x1 n0 c0 n1 c1 p w c hc HX.out HP.out HL.out (by omega))
      clear hlen hc
      go_wp2_with fail
      refine HCL.out.mono ?_
      rintro e w2 ⟨rfl, rfl⟩
      clear hd
      cases c with
      | true =>
        have HE : Hid (z = true) := Lib.hid (HZ.out ▸ List.any_eq_true.2 ⟨_, nth_mem (by have := HN.out; omega), HC.out⟩)
        go_wp2
        go_ret
        exact ⟨Or.inl ⟨HE.out, k, rfl⟩, rfl⟩
      | false =>
        have HA := Lib.hid (show ∀ j, j < k + 1 → freeL p (nth q j) = false from fun j hj => by rcases Nat.lt_succ_iff_lt_or_eq.1 hj with h5 | h5; exact ha.out j h5; exact h5 ▸ HC.out)
        go_wp2
        go_round
        case rel => exact ⟨k + 1, by omega, by go_num, HA⟩
        case measure => simp [intOf]; omega
    · obtain rfl : k = n := by omega
      have HE : Hid (z = false) := Lib.hid (by
        rw [← HZ.out, List.any_eq_false]
        intro s hs
        obtain ⟨j, hj, rfl⟩ := List.getElem_of_mem hs
        rw [← nth_eq hj, ha.out j (by have := HN.out; omega)]
        simp)
      clear hlt
      go_wp2
      go_ret
      exact ⟨Or.inr ⟨HE.out, rfl⟩, rfl⟩
set_option maxHeartbeats 1000000 in
theorem containsFree (v : Value) (q : List ByteArray) (g : Nat) (x0 x1 : Option Addr) (n0 c0 n1 c1 : Nat) (p : List ByteArray) (w : World) (z : Bool) (hz : q.any (freeL p) = z) (hx : Ret.Blk w g #[.slice x0 n0 c0, .slice x1 n1 c1] 131) (h : Holds Value.string w (.slice x0 n0 c0) p) (hq : Holds Value.string w v q) (hl : bulk p ≤ 100000000) (hql : bulk q ≤ 100000000) :
    Calls Tryz.prog 163 #[v, .func (.func 164) #[] #[.pointer (some ⟨g, 0, none⟩)]] w fun e w' => e = .returned (.bool z) ∧ w = w' := by
  obtain ⟨x, n, cap, rfl, hn, hcap, hh⟩ := hq.shapeN
  have HN := Lib.hid hn; have HH := Lib.hid hh; have HX := Lib.hid hx; have HP := Lib.hid h; have HL := Lib.hid hl; have HQ := Lib.hid hql; have HZ := Lib.hid hz
  clear hn h hh hx hl hql hq hz
  go_enter Tryz.func163, Tryz.ntmps163
  go_wp2_with fail
  refine (indexFree _ q g x0 x1 n0 c0 n1 c1 p _ z HZ.out HX.out HP.out HH.out HL.out HQ.out).mono ?_
  rintro e w1 ⟨⟨hh, k, rfl⟩ | ⟨hh, rfl⟩, rfl⟩
  · have HE := Lib.hid hh
    clear hh
    go_wp2
    go_ret
    exact ⟨ret_bool HE.out.symm, rfl⟩
  · have HE := Lib.hid hh
    clear hh
    go_wp2
    go_ret
    exact ⟨ret_bool HE.out.symm, rfl⟩
set_option maxHeartbeats 2000000 in
theorem hasFree (V : Value) (x : Rlt) (w : World) (z : Bool) (hz : lettersIn x.1 x.2 = !z) (h : kRl.At w V x) (hp : wtRl x ≤ 9000000) :
    Calls Tryz.prog 145 #[V] w fun e w' => e = .returned (.bool z) ∧ Below w.heap.size w w' := by
  obtain ⟨x0, n0, c0, x1, n1, c1, rfl, g0, g1⟩ := kRl_at h
  obtain ⟨p, q⟩ := x
  obtain ⟨p0, p1⟩ := fitR hp
  dsimp only at g0 g1 p0 p1
  obtain ⟨v0, e0, g0⟩ := kN_at g0
  obtain ⟨v1, e1, g1⟩ := kN_at g1
  obtain rfl : v0 = .slice x0 n0 c0 := by injection e0 with e; have := congrArg (fun z : Array Value => z[0]?) e; simpa using this.symm
  obtain rfl : v1 = .slice x1 n1 c1 := by injection e1 with e; have := congrArg (fun z : Array Value => z[0]?) e; simpa using this.symm
  have HB := Lib.hid ((Below.refl w.heap.size w).alloc (Nat.le_refl _) (.cells #[.slice x0 n0 c0, .slice x1 n1 c1] 131))
  have HX := Lib.hid (Ret.Blk.new w #[.slice x0 n0 c0, .slice x1 n1 c1] 131)
  have G0 := Lib.hid g0; have G1 := Lib.hid g1
  have HE : Hid (q.any (freeL p) = z) := Lib.hid (by have := letters_free p q; dsimp only at hz; rw [this] at hz; cases hq : q.any (freeL p) <;> cases z <;> simp [hq] at hz ⊢)
  have hmf : ∀ (fn : Fn) (first cap : Array Value) (w : World), (Instr.makeFunc fn first cap).run Tryz.prog w = .ok (.func fn first cap) w := fun _ _ _ _ => rfl
  clear h hp hz g0 g1 e0 e1
  go_enter Tryz.func145, Tryz.ntmps145
  go_wp2_with fail
  refine (containsFree _ q w.heap.size x0 x1 n0 c0 n1 c1 p _ z HE.out HX.out (G0.out.on HB.out) (G1.out.on HB.out) (by omega) (by omega)).mono ?_
  rintro e w1 ⟨rfl, rfl⟩
  go_wp2_with fail
  go_ret
  exact ⟨rfl, HB.out⟩
set_option maxHeartbeats 4000000 in
theorem implValidRule (V : Value) (x : Rlt) (w : World) (z : Bool) (hz : validR x = z) (h : kRl.At w V x) (hp : wtRl x ≤ 9000000) :
    Calls Tryz.prog 104 #[V] w fun e w' => e = .returned (.bool z) ∧ Below w.heap.size w w' := by
  have h9 := h; have hp9 := hp
  obtain ⟨x0, n0, c0, x1, n1, c1, rfl, g0, g1⟩ := kRl_at h
  obtain ⟨p, q⟩ := x
  obtain ⟨p0, p1⟩ := fitR hp
  dsimp only at g0 g1 p0 p1
  obtain ⟨v0, e0, g0⟩ := kN_at g0
  obtain ⟨v1, e1, g1⟩ := kN_at g1
  obtain rfl : v0 = .slice x0 n0 c0 := by injection e0 with e; have := congrArg (fun z : Array Value => z[0]?) e; simpa using this.symm
  obtain rfl : v1 = .slice x1 n1 c1 := by injection e1 with e; have := congrArg (fun z : Array Value => z[0]?) e; simpa using this.symm
  have HB := Lib.hid ((Below.refl w.heap.size w).alloc (Nat.le_refl _) (.cells #[.slice x0 n0 c0, .slice x1 n1 c1] 131))
  have HX := Lib.hid (Ret.Blk.new w #[.slice x0 n0 c0, .slice x1 n1 c1] 131)
  have G0 := Lib.hid g0; have G1 := Lib.hid g1; have HZ := Lib.hid hz; have H9 := Lib.hid h9; have HP9 := Lib.hid hp9
  clear h hp hz g0 g1 e0 e1 h9 hp9
  go_enter Tryz.func104, Tryz.ntmps104
  go_wp2_with fail
  obtain ⟨a, ha⟩ : ∃ a, validPat p = a := ⟨_, rfl⟩
  have HA := Lib.hid ha; clear ha
  refine (iPatV a HA.out (G0.out.on HB.out) (by omega)).mono ?_
  rintro e w1 ⟨rfl, hb⟩
  replace HX := Lib.hid (HX.out.on hb); replace HB := Lib.hid (HB.out.trans (hb.mono HB.out.size)); clear hb
  have q0 : w1.cell? ⟨w.heap.size, 0, none⟩ = some (.slice x0 n0 c0) := HX.out.cell 0
  have q1 : w1.cell? ⟨w.heap.size, 1, none⟩ = some (.slice x1 n1 c1) := HX.out.cell 1
  cases a with
  | false =>
    have HE : Hid (z = false) := Lib.hid (by rw [← HZ.out]; show (validPat p && validPat q && lettersIn p q) = false; rw [HA.out]; rfl)
    go_wp2_with fail
    go_ret
    exact ⟨ret_bool HE.out.symm, HB.out⟩
  | true =>
    go_wp2_with fail
    clear q0 q1
    obtain ⟨c, hc⟩ : ∃ a, validPat q = a := ⟨_, rfl⟩
    have HC := Lib.hid hc; clear hc
    refine (iPatV c HC.out (G1.out.on HB.out) (by omega)).mono ?_
    rintro e w2 ⟨rfl, hb⟩
    replace HX := Lib.hid (HX.out.on hb); replace HB := Lib.hid (HB.out.trans (hb.mono HB.out.size)); clear hb
    have q0 : w2.cell? ⟨w.heap.size, 0, none⟩ = some (.slice x0 n0 c0) := HX.out.cell 0
    have q1 : w2.cell? ⟨w.heap.size, 1, none⟩ = some (.slice x1 n1 c1) := HX.out.cell 1
    cases c with
    | false =>
      have HE : Hid (z = false) := Lib.hid (by rw [← HZ.out]; show (validPat p && validPat q && lettersIn p q) = false; rw [HA.out, HC.out]; rfl)
      go_wp2_with fail
      go_ret
      exact ⟨ret_bool HE.out.symm, HB.out⟩
    | true =>
      obtain ⟨d, hd⟩ : ∃ a, lettersIn p q = !a := ⟨!lettersIn p q, by simp⟩
      have HE : Hid (z = !d) := Lib.hid (by rw [← HZ.out]; show (validPat p && validPat q && lettersIn p q) = _; rw [HA.out, HC.out, hd]; simp)
      have HD := Lib.hid hd; clear hd
      go_wp2_with fail
      clear q0 q1
      refine (hasFree _ (p, q) _ d HD.out (H9.out.on HB.out) HP9.out).mono ?_
      rintro e w3 ⟨rfl, hb⟩
      replace HB := Lib.hid (HB.out.trans (hb.mono HB.out.size)); clear hb
      cases d <;> (go_wp2_with fail; go_ret; exact ⟨ret_bool HE.out.symm, HB.out⟩)
end Go.Proofs.YtlhchmjnaanjpaaGreatDoor.Row
/- Contracts of ParseRule, the model's and the program's (with strings.Cut of the library, whatever its variable MaxLen holds). No conditions but that lengths fit. -/
namespace Go.Proofs.YtlhchmjnaanjpaaGreatDoor.Row
open Go.ChangeShapes Go.WideShapes Go.ChangeAt Go.RowKit Go.Instr
set_option linter.unusedVariables false
set_option maxRecDepth 100000
theorem ret_vb {V : Value} {a b : Bool} (h : a = b) : Ending.returned (.tuple #[V, .bool a]) = .returned (.tuple #[V, .bool b]) := by rw [h]
theorem tl60 : (mk [60]).toList = [60] := ByteArray.toList_mk [60]
end Go.Proofs.YtlhchmjnaanjpaaGreatDoor.Row
/- The model's ParsePattern and ParseRule: what they give lies in blocks of texts. No conditions but that lengths fit. -/
namespace Go.Proofs.YtlhchmjnaanjpaaGreatDoor.Row
open Go.ChangeShapes Go.WideShapes Go.ChangeAt Go.RowKit Go.Instr
set_option linter.unusedVariables false
set_option maxRecDepth 100000
set_option maxHeartbeats 2000000 in
theorem specParsePatternB (s : ByteArray) (w : World) (hs : s.size ≤ 10000000) :
    Calls Tryz.prog 153 #[.string s] w (GivesN9 w (ppN s) (ppOk s)) := by
  have HB0 := Lib.hid ((Below.refl w.heap.size w).alloc (Nat.le_refl _) (.cells #[.slice none 0 0] 129))
  have HR := Lib.hid (Ret.NC.new' (w := w) (.slice none 0 0) 129 rfl)
  by_cases h47 : s = mk [47]
  · obtain ⟨p1, p2⟩ := ppOk_slash
    rw [← h47] at p1 p2
    have HP := Lib.hid p1; have HPN := Lib.hid p2
    have hq : (s.toList == [47]) = true := by rw [h47, tl47]; rfl
    clear p1 p2 h47
    go_enter Tryz.func153, Tryz.ntmps153
    go_wp2
    refine bodyPost_ret (Ret.results_ct rfl _ _ w.heap.size [_] rfl aggPt (Ret.one HR.out.1)) rfl ?_
    exact ⟨_, ret_nb HP.out.symm, by rw [HPN.out]; exact HB.nil _ _, HB0.out⟩
  · have h47l : s.toList ≠ [47] := fun e => h47 (toList_inj (e.trans tl47.symm))
    have hq : (s.toList == [47]) = false := by simpa using h47l
    have H47 := Lib.hid h47
    have hpos := split_pos s
    have hbk := bulk_split s
    have hlb := bulk_len (splitB s)
    obtain ⟨n, hn⟩ : ∃ n, n = (splitB s).length := ⟨_, rfl⟩
    rw [← hn] at hpos hlb
    have hnb : n ≤ 10000001 := by omega
    have HN := Lib.hid hn
    have HBK := Lib.hid hbk
    clear h47 h47l hn hbk hlb
    go_enter Tryz.func153, Tryz.ntmps153
    go_wp2_with fail
    refine (l4Split s _ hs).mono ?_
    rintro e w1 ⟨v1, rfl, ho1, hb1⟩
    have HB1 := Lib.hid (HB0.out.trans (hb1.mono HB0.out.size))
    have HR1 := Lib.hid (HR.out.on hb1)
    have hty9 : ∀ b off n c, v1 = .slice (some ⟨b, off, none⟩) n c → TY w1 b := fun b off n c e => ((HB.of ho1).2 b off n c e).2
    obtain ⟨g, c1, rfl, hg1, hg2, hc1⟩ : ∃ g c1, v1 = .slice (some ⟨g, 0, none⟩) n c1 ∧ w.heap.size + 1 ≤ g ∧ g < w1.heap.size ∧ n ≤ c1 := by
      rcases ho1.form with ⟨_, h2⟩ | ⟨g, c1, h1, h2, h3, h4, h5⟩
      · exact absurd (congrArg List.length h2) (by rw [← HN.out]; simp; omega)
      · exact ⟨g, c1, by rw [h1, HN.out], by simpa using h2, h3, by rw [HN.out]; exact h4⟩
    have HH1 := Lib.hid ho1.holds
    have HTY := Lib.hid (hty9 g 0 n c1 rfl)
    clear ho1 hb1 hty9
    by_cases h2 : n = 1
    · subst h2
      have HP := Lib.hid (pt_split_no H47.out (fun rest h hr => by
        have h3 := HN.out
        rw [h] at h3
        simp at h3
        exact absurd h3 hr))
      have HPN := Lib.hid (ppN_no HP.out)
      by_cases hc : c1 = 1
      · subst hc
        obtain ⟨hk2, hf2⟩ := HR1.out.alloc (.cells #[.slice (some ⟨g, 0, none⟩) 0 0] 129)
        obtain ⟨q1, q2, q3⟩ := endN (w := w) (g := w.heap.size) (B := w.heap.size + 1) (v := .slice none 0 0) (l := []) (by omega) (by omega) (Own.nil _ _ _ _) hk2 (HB1.out.alloc HB1.out.size (.cells #[.slice (some ⟨g, 0, none⟩) 0 0] 129))
        have HQ1 := Lib.hid q1; have HQ2 := Lib.hid q2; have HQ3 := Lib.hid q3
        clear q1 q2 q3
        go_wp2
        refine bodyPost_ret (Ret.results_ct rfl _ _ w.heap.size [_] rfl aggPt (Ret.one HQ1.out)) rfl ?_
        exact ⟨_, ret_nb HP.out.symm, by rw [HPN.out]; exact HB.of HQ2.out, HQ3.out⟩
      · have hc2 : ¬ c1 - 1 = 0 := by omega
        obtain ⟨hk2, hf2⟩ := HR1.out.alloc (.cells #[.slice (some ⟨g, 1, none⟩) 0 (c1 - 1)] 129)
        obtain ⟨q1, q2, q3⟩ := endN (w := w) (g := w.heap.size) (B := w.heap.size + 1) (v := .slice none 0 0) (l := []) (by omega) (by omega) (Own.nil _ _ _ _) hk2 (HB1.out.alloc HB1.out.size (.cells #[.slice (some ⟨g, 1, none⟩) 0 (c1 - 1)] 129))
        have HQ1 := Lib.hid q1; have HQ2 := Lib.hid q2; have HQ3 := Lib.hid q3
        clear q1 q2 q3
        go_wp2
        refine bodyPost_ret (Ret.results_ct rfl _ _ w.heap.size [_] rfl aggPt (Ret.one HQ1.out)) rfl ?_
        exact ⟨_, ret_nb HP.out.symm, by rw [HPN.out]; exact HB.of HQ2.out, HQ3.out⟩
    · have hn2 : 2 ≤ n := by omega
      have hn3 : decide ((n : Int) < 2) = false := by simp; omega
      have hc2 : ¬ c1 = 1 := by omega
      obtain ⟨b0, off0, he0, hcell⟩ := HH1.out.at (j := 0) (by rw [← HN.out]; omega)
      cases he0
      have HD := Lib.hid ((HH1.out.drop (j := 1) (by rw [← HN.out]; omega)).on ((Below.refl _ _).alloc (Nat.le_refl _) (.cells #[.slice (some ⟨g, 1, none⟩) (n - 1) (c1 - 1)] 129)))
      have HL := Lib.hid (show splitB s = nth (splitB s) 0 :: (splitB s).drop 1 by
        have := drop_nth (l := splitB s) (k := 0) (by rw [← HN.out]; omega)
        rw [List.drop_zero] at this
        exact this)
      have HDN := Lib.hid (show (splitB s).drop 1 ≠ [] by
        intro e
        have := congrArg List.length e
        rw [List.length_drop, ← HN.out] at this
        simp at this; omega)
      have HBD := Lib.hid (show bulk ((splitB s).drop 1) ≤ 100000000 by
        have h3 := HBK.out
        rw [HL.out, bulk_cons] at h3
        omega)
      have HR2 := Lib.hid (HR1.out.alloc (.cells #[.slice (some ⟨g, 1, none⟩) (n - 1) (c1 - 1)] 129))
      have HT2 := Lib.hid (Ret.NC.new' (w := w1) (.slice (some ⟨g, 1, none⟩) (n - 1) (c1 - 1)) 129 rfl)
      have HB2 := Lib.hid (HB1.out.alloc HB1.out.size (.cells #[.slice (some ⟨g, 1, none⟩) (n - 1) (c1 - 1)] 129))
      rw [Nat.add_zero] at hcell
      by_cases hx : nth (splitB s) 0 = mk []
      · have hxe : (nth (splitB s) 0).toList.isEmpty = true := by rw [hx, tl0]; rfl
        have HX := Lib.hid hx
        clear hx
        go_wp2_with fail
        refine (specValidPattern _ _ _ HD.out HBD.out).mono ?_
        rintro e w3 ⟨rfl, hb3⟩
        have HR3 := Lib.hid (HR2.out.on hb3)
        have HT3 := Lib.hid (HT2.out.on hb3)
        have HD3 := Lib.hid (HD.out.on hb3)
        have HTY3 := Lib.hid ((HTY.out.on ((Below.refl w1.heap.size w1).alloc (Nat.le_refl _) (.cells #[.slice (some ⟨g, 1, none⟩) (n - 1) (c1 - 1)] 129))).on hb3)
        have HB3 := Lib.hid (HB2.out.trans (hb3.mono HB2.out.size))
        clear hb3
        cases hv : validPat ((splitB s).drop 1) with
        | true =>
          obtain ⟨p1, p2⟩ := pt_split_yes (by have := HL.out; rw [HX.out] at this; exact this) HDN.out hv
          have HP := Lib.hid p1; have HPN := Lib.hid p2
          obtain ⟨hk2, hf2⟩ := HR3.out
          obtain ⟨hk3, -⟩ := HT3.out
          have HQ1 := Lib.hid (Ret.set_same (v := .slice (some ⟨g, 1, none⟩) (n - 1) (c1 - 1)) hk2)
          have HQ2 := Lib.hid (HD3.out.grown (Ret.grownBy_set w3 ⟨w.heap.size, 0, none⟩ (.slice (some ⟨g, 1, none⟩) (n - 1) (c1 - 1))) (fun g1 h1 e1 => by simp [Value.ownBlock] at h1 e1; omega))
          have HQ3 := Lib.hid (HB3.out.setCell (p := ⟨w.heap.size, 0, none⟩) (Nat.le_refl _) (.slice (some ⟨g, 1, none⟩) (n - 1) (c1 - 1)))
          clear p1 p2 hv
          go_wp2
          refine bodyPost_ret (Ret.results_ct rfl _ _ w.heap.size [_] rfl aggPt (Ret.one HQ1.out)) rfl ?_
          exact ⟨_, ret_nb HP.out.symm, by rw [HPN.out]; exact ⟨HQ2.out, fun b off n c e => by cases e; exact ⟨by omega, HTY3.out.set (by omega)⟩⟩, HQ3.out⟩
        | false =>
          have HP := Lib.hid (pt_split_no H47.out (fun rest h hr => by
            have h3 := HL.out
            rw [h] at h3
            have h4 := (List.cons.inj h3).2
            rw [h4, ← h]; exact hv))
          have HPN := Lib.hid (ppN_no HP.out)
          obtain ⟨hk2, hf2⟩ := HR3.out
          obtain ⟨q1, q2, q3⟩ := endN (w := w) (g := w.heap.size) (B := w.heap.size + 1) (v := .slice none 0 0) (l := []) (by omega) (by omega) (Own.nil _ _ _ _) hk2 HB3.out
          have HQ1 := Lib.hid q1; have HQ2 := Lib.hid q2; have HQ3 := Lib.hid q3
          clear q1 q2 q3 hv
          go_wp2
          refine bodyPost_ret (Ret.results_ct rfl _ _ w.heap.size [_] rfl aggPt (Ret.one HQ1.out)) rfl ?_
          exact ⟨_, ret_nb HP.out.symm, by rw [HPN.out]; exact HB.of HQ2.out, HQ3.out⟩
      · have hxe : (nth (splitB s) 0).toList.isEmpty = false := by
          have : (nth (splitB s) 0).toList ≠ [] := fun e => hx (toList_inj (e.trans tl0.symm))
          simpa using this
        have HP := Lib.hid (pt_split_no H47.out (fun rest h hr => by
          have h3 := HL.out
          rw [h] at h3
          exact absurd (by rw [h]; exact (List.cons.inj h3).1.symm) hx))
        have HPN := Lib.hid (ppN_no HP.out)
        clear hx
        obtain ⟨hk2, hf2⟩ := HR2.out
        obtain ⟨q1, q2, q3⟩ := endN (w := w) (g := w.heap.size) (B := w.heap.size + 1) (v := .slice none 0 0) (l := []) (by omega) (by omega) (Own.nil _ _ _ _) hk2 HB2.out
        have HQ1 := Lib.hid q1; have HQ2 := Lib.hid q2; have HQ3 := Lib.hid q3
        clear q1 q2 q3
        go_wp2
        refine bodyPost_ret (Ret.results_ct rfl _ _ w.heap.size [_] rfl aggPt (Ret.one HQ1.out)) rfl ?_
        exact ⟨_, ret_nb HP.out.symm, by rw [HPN.out]; exact HB.of HQ2.out, HQ3.out⟩
set_option maxHeartbeats 8000000 in
theorem specParseRuleB (s : ByteArray) (w : World) (hs : s.size ≤ 2000000) :
    Calls Tryz.prog 119 #[.string s] w fun e w' => ∃ (x0 x1 : Option Addr) (n0 c0 n1 c1 : Nat), e = .returned (.tuple #[.agg #[.slice x0 n0 c0, .slice x1 n1 c1], .bool (prOk s)]) ∧ HB w.heap.size w' (.slice x0 n0 c0) (prR s).1 ∧ HB w.heap.size w' (.slice x1 n1 c1) (prR s).2 ∧ Below w.heap.size w w' := by
  have HB0 := Lib.hid ((Below.refl w.heap.size w).alloc (Nat.le_refl _) (.cells #[.slice none 0 0, .slice none 0 0] 131))
  have HR0 := Lib.hid (Ret.Blk.new w #[.slice none 0 0, .slice none 0 0] 131)
  go_enter Tryz.func119, Tryz.ntmps119
  go_wp2_with fail
  refine (Sp.l4Split s _ (by omega)).mono ?_
  rintro e w1 ⟨v1, rfl, ho1, hb1⟩
  obtain ⟨x1, n1, c1, rfl, hn1, hc1, ho1⟩ := ho1.shapeN
  have HR := Lib.hid (HR0.out.on hb1)
  have HB := Lib.hid (HB0.out.trans (hb1.mono HB0.out.size))
  have HH := Lib.hid ho1.holds
  clear ho1 hb1
  obtain ⟨L, hL⟩ : ∃ L, Sp.splitB s = L := ⟨_, rfl⟩
  rw [hL] at hn1 HH
  have r0 : w1.cell? ⟨w.heap.size, 0, none⟩ = some (.slice none 0 0) := HR.out.cell 0
  have r1 : w1.cell? ⟨w.heap.size, 1, none⟩ = some (.slice none 0 0) := HR.out.cell 1
  have z0 := HR.out.frozen 0; have z1 := HR.out.frozen 1
  have ZN := Lib.hid ((HR.out.set 0 (.slice none 0 0)).set 1 (.slice none 0 0))
  have ZB := Lib.hid ((HB.out.setCell (p := ⟨w.heap.size, 0, none⟩) (Nat.le_refl _) (.slice none 0 0)).setCell (p := ⟨w.heap.size, 1, none⟩) (Nat.le_refl _) (.slice none 0 0))
  by_cases h3 : n1 = 3
  · subst h3
    obtain ⟨a, c, b, rfl⟩ : ∃ a c b, L = [a, c, b] := by
      rcases L with _ | ⟨a, _ | ⟨c, _ | ⟨b, _ | ⟨d, r⟩⟩⟩⟩ <;> first | exact ⟨_, _, _, rfl⟩ | (exfalso; simp at hn1)
    obtain ⟨bb, off, rfl, d0⟩ := HH.out.at (j := 0) (by simp)
    obtain ⟨bb', off', e1, d1⟩ := HH.out.at (j := 1) (by simp)
    obtain ⟨rfl, rfl⟩ : bb = bb' ∧ off = off' := by cases e1; exact ⟨rfl, rfl⟩
    obtain ⟨bb', off', e2, d2⟩ := HH.out.at (j := 2) (by simp)
    obtain ⟨rfl, rfl⟩ : bb = bb' ∧ off = off' := by cases e2; exact ⟨rfl, rfl⟩
    replace d0 : w1.cell? ⟨bb, off, none⟩ = some (.string a) := d0
    replace d1 : w1.cell? ⟨bb, off + 1, none⟩ = some (.string c) := d1
    replace d2 : w1.cell? ⟨bb, off + 2, none⟩ = some (.string b) := d2
    obtain ⟨p1, p2⟩ := pr_three hL
    have hsz : a.size ≤ 2000000 ∧ b.size ≤ 2000000 := by
      have hk := fun p hp => Nat.le_trans (splitSp_size s p hp) hs
      rw [hL] at hk
      exact ⟨hk a (by simp), hk b (by simp)⟩
    by_cases hc : c = mk [60]
    · have hq : (c.toList == [60]) = true := by rw [hc, tl60]; rfl
      rw [hc] at p1 p2
      have P1 := Lib.hid (show prOk s = prAB a b from by rw [p1]; simp)
      have P2 := Lib.hid (show prOk s = true → prR s = (ppN a, ppN b) from fun h => by rw [p1] at h; rw [p2, h]; rfl)
      have D2 := Lib.hid d2; have R0 := Lib.hid r0
      clear p1 p2 hc hL hn1 e1 e2 r0 r1 z0 z1
      go_wp2_with fail
      clear hq d0 d1 d2
      refine (specParsePatternB a _ (by omega)).mono ?_
      have hwa9 := HB.out.size
      rintro e w2 ⟨va, rfl, ha, hb⟩
      obtain ⟨xa, na, ca, rfl, -, ha⟩ := ha.shapeN
      have hal := (Below.refl w2.heap.size w2).alloc (Nat.le_refl _) (.cells #[.slice xa na ca] 129)
      have d2 := ((hb.cell (Ret.cell_lt D2.out)).trans D2.out)
      replace d2 := (hal.cell (Ret.cell_lt d2)).trans d2
      replace HR := Lib.hid ((HR.out.on hb).on hal); replace HB := Lib.hid ((HB.out.trans (hb.mono HB.out.size)).alloc (Nat.le_trans HB.out.size hb.size) (.cells #[.slice xa na ca] 129))
      have HA := Lib.hid (ha.on hal)
      have HBA := Lib.hid (Ret.Box.new w2 (.slice xa na ca) 129)
      replace HA := Lib.hid (HA.out.mono hwa9)
      clear ha hb hal hwa9
      go_wp2_with fail
      clear d2
      refine (specParsePatternB b _ (by omega)).mono ?_
      have hwb9 := HB.out.size
      rintro e w3 ⟨vb, rfl, hbb, hb⟩
      have hs2 := Nat.le_trans HB.out.size hb.size
      obtain ⟨xb, nb, cb, rfl, -, hbb⟩ := hbb.shapeN
      have hs3 := hb.size
      simp only [World.size_alloc] at hs3
      have hal := (Below.refl w3.heap.size w3).alloc (Nat.le_refl _) (.cells #[.slice xb nb cb] 129)
      replace HR := Lib.hid ((HR.out.on hb).on hal); replace HB := Lib.hid ((HB.out.trans (hb.mono HB.out.size)).alloc (Nat.le_trans HB.out.size hb.size) (.cells #[.slice xb nb cb] 129))
      replace HA := Lib.hid ((HA.out.on hb).on hal); replace HBA := Lib.hid ((HBA.out.on hb).on hal)
      have HBb := Lib.hid (hbb.on hal)
      have HBB := Lib.hid (Ret.Box.new w3 (.slice xb nb cb) 129)
      replace HBb := Lib.hid (HBb.out.mono hwb9)
      clear hbb hb hal hwb9
      have ha2 := HBA.out.cell
      have hal := (Below.refl (w3.alloc (.cells #[.slice xb nb cb] 129)).heap.size (w3.alloc (.cells #[.slice xb nb cb] 129))).alloc (Nat.le_refl _) (.cells #[.slice xa na ca, .slice xb nb cb] 131)
      replace HR := Lib.hid (HR.out.on hal); replace HB := Lib.hid (HB.out.alloc HB.out.size (.cells #[.slice xa na ca, .slice xb nb cb] 131))
      replace HA := Lib.hid (HA.out.on hal); replace HBb := Lib.hid (HBb.out.on hal)
      have HX := Lib.hid (Ret.Blk.new' (w := w3.alloc (.cells #[.slice xb nb cb] 129)) (n := w3.heap.size + 1) #[.slice xa na ca, .slice xb nb cb] 131 (by simp))
      have HKR := Lib.hid (kRl_of (x := (ppN a, ppN b)) (kN_of HA.out.holds) (kN_of HBb.out.holds))
      have HWT := Lib.hid (wt_pp a b)
      clear hal
      cases hpa : ppOk a with
      | false =>
        have E1 : Hid (prOk s = false) := Lib.hid (by rw [P1.out]; unfold prAB; rw [hpa]; rfl)
        have E2 : Hid (prR s = ([], [])) := Lib.hid (prR_no E1.out)
        have r0 : ((w3.alloc (.cells #[.slice xb nb cb] 129)).alloc (.cells #[.slice xa na ca, .slice xb nb cb] 131)).cell? ⟨w.heap.size, 0, none⟩ = some (.slice none 0 0) := HR.out.cell 0
        have r1 : ((w3.alloc (.cells #[.slice xb nb cb] 129)).alloc (.cells #[.slice xa na ca, .slice xb nb cb] 131)).cell? ⟨w.heap.size, 1, none⟩ = some (.slice none 0 0) := HR.out.cell 1
        have z0 : ((w3.alloc (.cells #[.slice xb nb cb] 129)).alloc (.cells #[.slice xa na ca, .slice xb nb cb] 131)).frozen? ⟨w.heap.size, 0, none⟩ = false := HR.out.frozen 0
        have z1 : ((w3.alloc (.cells #[.slice xb nb cb] 129)).alloc (.cells #[.slice xa na ca, .slice xb nb cb] 131)).frozen? ⟨w.heap.size, 1, none⟩ = false := HR.out.frozen 1
        have ZN := Lib.hid ((HR.out.set 0 (.slice none 0 0)).set 1 (.slice none 0 0))
        have ZB := Lib.hid ((HB.out.setCell (p := ⟨w.heap.size, 0, none⟩) (Nat.le_refl _) (.slice none 0 0)).setCell (p := ⟨w.heap.size, 1, none⟩) (Nat.le_refl _) (.slice none 0 0))
        go_wp2_with fail
        refine bodyPost_ret (Ret.results_ct rfl _ _ w.heap.size [.slice none 0 0, .slice none 0 0] rfl aggRl ZN.out.cells) rfl ?_
        exact ⟨_, _, _, _, _, _, ret_vb E1.out.symm, by rw [E2.out]; exact Row.HB.nil _ _, by rw [E2.out]; exact Row.HB.nil _ _, ZB.out⟩
      | true =>
        cases hpb : ppOk b with
        | false =>
          have E1 : Hid (prOk s = false) := Lib.hid (by rw [P1.out]; unfold prAB; rw [hpa, hpb]; rfl)
          have E2 : Hid (prR s = ([], [])) := Lib.hid (prR_no E1.out)
          have r0 : ((w3.alloc (.cells #[.slice xb nb cb] 129)).alloc (.cells #[.slice xa na ca, .slice xb nb cb] 131)).cell? ⟨w.heap.size, 0, none⟩ = some (.slice none 0 0) := HR.out.cell 0
          have r1 : ((w3.alloc (.cells #[.slice xb nb cb] 129)).alloc (.cells #[.slice xa na ca, .slice xb nb cb] 131)).cell? ⟨w.heap.size, 1, none⟩ = some (.slice none 0 0) := HR.out.cell 1
          have z0 : ((w3.alloc (.cells #[.slice xb nb cb] 129)).alloc (.cells #[.slice xa na ca, .slice xb nb cb] 131)).frozen? ⟨w.heap.size, 0, none⟩ = false := HR.out.frozen 0
          have z1 : ((w3.alloc (.cells #[.slice xb nb cb] 129)).alloc (.cells #[.slice xa na ca, .slice xb nb cb] 131)).frozen? ⟨w.heap.size, 1, none⟩ = false := HR.out.frozen 1
          have ZN := Lib.hid ((HR.out.set 0 (.slice none 0 0)).set 1 (.slice none 0 0))
          have ZB := Lib.hid ((HB.out.setCell (p := ⟨w.heap.size, 0, none⟩) (Nat.le_refl _) (.slice none 0 0)).setCell (p := ⟨w.heap.size, 1, none⟩) (Nat.le_refl _) (.slice none 0 0))
          go_wp2_with fail
          refine bodyPost_ret (Ret.results_ct rfl _ _ w.heap.size [.slice none 0 0, .slice none 0 0] rfl aggRl ZN.out.cells) rfl ?_
          exact ⟨_, _, _, _, _, _, ret_vb E1.out.symm, by rw [E2.out]; exact Row.HB.nil _ _, by rw [E2.out]; exact Row.HB.nil _ _, ZB.out⟩
        | true =>
          obtain ⟨z, hz⟩ : ∃ z, validR (ppN a, ppN b) = z := ⟨_, rfl⟩
          have HZ := Lib.hid hz
          have E0 : Hid (prOk s = z) := Lib.hid (by rw [P1.out]; unfold prAB; rw [hpa, hpb, hz]; rfl)
          clear hz hpa hpb
          have x0 : ((w3.alloc (.cells #[.slice xb nb cb] 129)).alloc (.cells #[.slice xa na ca, .slice xb nb cb] 131)).cell? ⟨w3.heap.size + 1, 0, none⟩ = some (.slice xa na ca) := HX.out.cell 0
          have x1 : ((w3.alloc (.cells #[.slice xb nb cb] 129)).alloc (.cells #[.slice xa na ca, .slice xb nb cb] 131)).cell? ⟨w3.heap.size + 1, 1, none⟩ = some (.slice xb nb cb) := HX.out.cell 1
          go_wp2_with fail
          clear x0 x1
          refine (specValidRule _ (ppN a, ppN b) _ z HZ.out HKR.out HWT.out).mono ?_
          rintro e w4 ⟨rfl, hb⟩
          replace HR := Lib.hid (HR.out.on hb); replace HX := Lib.hid (HX.out.on hb)
          replace HA := Lib.hid (HA.out.on hb); replace HBb := Lib.hid (HBb.out.on hb)
          replace HB := Lib.hid (HB.out.trans (hb.mono HB.out.size)); clear hb
          cases z with
          | false =>
            have E1 : Hid (prOk s = false) := Lib.hid (E0.out)
            have E2 : Hid (prR s = ([], [])) := Lib.hid (prR_no E1.out)
            have r0 : w4.cell? ⟨w.heap.size, 0, none⟩ = some (.slice none 0 0) := HR.out.cell 0
            have r1 : w4.cell? ⟨w.heap.size, 1, none⟩ = some (.slice none 0 0) := HR.out.cell 1
            have z0 : w4.frozen? ⟨w.heap.size, 0, none⟩ = false := HR.out.frozen 0
            have z1 : w4.frozen? ⟨w.heap.size, 1, none⟩ = false := HR.out.frozen 1
            have ZN := Lib.hid ((HR.out.set 0 (.slice none 0 0)).set 1 (.slice none 0 0))
            have ZB := Lib.hid ((HB.out.setCell (p := ⟨w.heap.size, 0, none⟩) (Nat.le_refl _) (.slice none 0 0)).setCell (p := ⟨w.heap.size, 1, none⟩) (Nat.le_refl _) (.slice none 0 0))
            go_wp2_with fail
            refine bodyPost_ret (Ret.results_ct rfl _ _ w.heap.size [.slice none 0 0, .slice none 0 0] rfl aggRl ZN.out.cells) rfl ?_
            exact ⟨_, _, _, _, _, _, ret_vb E1.out.symm, by rw [E2.out]; exact Row.HB.nil _ _, by rw [E2.out]; exact Row.HB.nil _ _, ZB.out⟩
          | true =>
            have E2 : Hid (prR s = (ppN a, ppN b)) := Lib.hid (P2.out E0.out)
            have x0 : w4.cell? ⟨w3.heap.size + 1, 0, none⟩ = some (.slice xa na ca) := HX.out.cell 0
            have x1 : w4.cell? ⟨w3.heap.size + 1, 1, none⟩ = some (.slice xb nb cb) := HX.out.cell 1
            have r0 : w4.cell? ⟨w.heap.size, 0, none⟩ = some (.slice none 0 0) := HR.out.cell 0
            have r1 : w4.cell? ⟨w.heap.size, 1, none⟩ = some (.slice none 0 0) := HR.out.cell 1
            have z0 : w4.frozen? ⟨w.heap.size, 0, none⟩ = false := HR.out.frozen 0
            have z1 : w4.frozen? ⟨w.heap.size, 1, none⟩ = false := HR.out.frozen 1
            have ZN := Lib.hid ((HR.out.set 0 (.slice xa na ca)).set 1 (.slice xb nb cb))
            have ZB := Lib.hid ((HB.out.setCell (p := ⟨w.heap.size, 0, none⟩) (Nat.le_refl _) (.slice xa na ca)).setCell (p := ⟨w.heap.size, 1, none⟩) (Nat.le_refl _) (.slice xb nb cb))
            have ZK := Lib.hid ((HA.out.setT (i := 0) (u := (.slice xa na ca)) HR.out (by decide)).setT (i := 1) (u := (.slice xb nb cb)) (HR.out.set 0 (.slice xa na ca)) (by decide)); have ZL := Lib.hid ((HBb.out.setT (i := 0) (u := (.slice xa na ca)) HR.out (by decide)).setT (i := 1) (u := (.slice xb nb cb)) (HR.out.set 0 (.slice xa na ca)) (by decide))
            go_wp2_with fail
            refine bodyPost_ret (Ret.results_ct rfl _ _ w.heap.size [.slice xa na ca, .slice xb nb cb] rfl aggRl ZN.out.cells) rfl ?_
            exact ⟨_, _, _, _, _, _, ret_vb E0.out.symm, by rw [E2.out]; exact ZK.out, by rw [E2.out]; exact ZL.out, ZB.out⟩
    · have hq : (c.toList == [60]) = false := by
        have : c.toList ≠ [60] := fun e => hc (toList_inj (e.trans tl60.symm))
        simpa using this
      have P1 := Lib.hid (show prOk s = false from by rw [p1]; simp [hc])
      have P2 := Lib.hid (show prR s = ([], []) from by rw [p2]; simp [hc])
      clear p1 p2 hc hL hn1 e1 e2
      go_wp2_with fail
      refine bodyPost_ret (Ret.results_ct rfl _ _ w.heap.size [.slice none 0 0, .slice none 0 0] rfl aggRl ZN.out.cells) rfl ?_
      exact ⟨_, _, _, _, _, _, ret_vb P1.out.symm, by rw [P2.out]; exact Row.HB.nil _ _, by rw [P2.out]; exact Row.HB.nil _ _, ZB.out⟩
  · obtain ⟨p1, p2⟩ := pr_other (s := s) (by rw [hL, ← hn1]; exact h3)
    have P1 := Lib.hid p1; have P2 := Lib.hid p2
    have hne : ((n1 : Int) != 3) = true := by simp; omega
    clear p1 p2 hL hn1 h3
    go_wp2_with fail
    refine bodyPost_ret (Ret.results_ct rfl _ _ w.heap.size [.slice none 0 0, .slice none 0 0] rfl aggRl ZN.out.cells) rfl ?_
    exact ⟨_, _, _, _, _, _, ret_vb P1.out.symm, by rw [P2.out]; exact Row.HB.nil _ _, by rw [P2.out]; exact Row.HB.nil _ _, ZB.out⟩
end Go.Proofs.YtlhchmjnaanjpaaGreatDoor.Row
/- The model's draws of rules and of lists of rules (l10Rule, l10Rules, l10One). What was in memory stays as it was, but for the cursor. -/
namespace Go.Proofs.YtlhchmjnaanjpaaGreatDoor.Draw
open Go.ChangeShapes Go.WideShapes Go.ChangeAt Go.RowKit Go.Instr
open Go.Proofs.YtlhchmjnaanjpaaGreatDoor.Row (bulk bulk_append bulk_one bulk_nil bulk_cons HB Rlt Rlm kRl kLRl OwnK HoldsK wtRl)
open Go.Proofs.YtlhchmjnaanjpaaGreatDoor.Ret (NC Blk Box)
set_option linter.unusedVariables false
set_option maxRecDepth 100000
structure RH (B : Nat) (w : World) (x0 : Option Addr) (n0 c0 : Nat) (x1 : Option Addr) (n1 c1 : Nat) (x : Rlt) : Prop where
  fst : HB B w (.slice x0 n0 c0) x.1
  snd : HB B w (.slice x1 n1 c1) x.2
section
variable {B B' p g i : Nat} {w w' : World} {x0 x1 : Option Addr} {n0 c0 n1 c1 : Nat} {x : Rlt} {cs : Array Value} {t : TypeId} {u : Value}
theorem RH.on (h : RH B w x0 n0 c0 x1 n1 c1 x) (hb : Below w.heap.size w w') : RH B w' x0 n0 c0 x1 n1 c1 x := ⟨h.1.on hb, h.2.on hb⟩
theorem RH.mono (h : RH B w x0 n0 c0 x1 n1 c1 x) (hB : B' ≤ B) : RH B' w x0 n0 c0 x1 n1 c1 x := ⟨h.1.mono hB, h.2.mono hB⟩
theorem RH.keep (h : RH B w x0 n0 c0 x1 n1 c1 x) (hk : Keep p w w') (hp : p < B) : RH B w' x0 n0 c0 x1 n1 c1 x := ⟨Row.hb_keep' h.1 hk hp, Row.hb_keep' h.2 hk hp⟩
theorem RH.setT (h : RH B w x0 n0 c0 x1 n1 c1 x) (hb : Blk w g cs t) (hne : t ≠ 9) : RH B (w.setCell ⟨g, i, none⟩ u) x0 n0 c0 x1 n1 c1 x := ⟨h.1.setT hb hne, h.2.setT hb hne⟩
theorem RH.at (h : RH B w x0 n0 c0 x1 n1 c1 x) : kRl.At w (.agg #[.slice x0 n0 c0, .slice x1 n1 c1]) x := Row.kRl_of (Row.kN_of h.1.holds) (Row.kN_of h.2.holds)
end
def RuleD (B : Nat) (V : Value) (w : World) : Prop := ∃ (x0 x1 : Option Addr) (n0 c0 n1 c1 : Nat) (x : Rlt), V = .agg #[.slice x0 n0 c0, .slice x1 n1 c1] ∧ RH B w x0 n0 c0 x1 n1 c1 x ∧ bulk x.1 ≤ 1000 ∧ bulk x.2 ≤ 1000
def RL (B : Nat) (w : World) (V : Value) (L : List Rlm) : Prop := OwnK 131 kRl.cells 2 B w V L ∧ ∀ m ∈ L, HB B w m.1.v m.1.els ∧ HB B w m.2.v m.2.els
theorem ownk_keepU {α : Type} {enc : α → List Value} {sz : Nat} {e : TypeId} {B p : Nat} {w w' : World} {x : Value} {m : List α} (h : OwnK e enc sz B w x m) (hk : Keep p w w') (hp : p < B) : OwnK e enc sz B w' x m := by
  refine Row.ownK_keep h fun g hg => ?_
  have := h.lt g hg
  exact hk.block g this.2 (by omega)
section
variable {B B' p : Nat} {w w' : World} {V : Value} {L : List Rlm}
theorem RL.on (h : RL B w V L) (hb : Below w.heap.size w w') : RL B w' V L := ⟨h.1.on hb, fun m hm => ⟨(h.2 m hm).1.on hb, (h.2 m hm).2.on hb⟩⟩
theorem RL.mono (h : RL B w V L) (hB : B' ≤ B) : RL B' w V L := ⟨h.1.mono hB, fun m hm => ⟨(h.2 m hm).1.mono hB, (h.2 m hm).2.mono hB⟩⟩
theorem RL.keep (h : RL B w V L) (hk : Keep p w w') (hp : p < B) : RL B w' V L := ⟨ownk_keepU h.1 hk hp, fun m hm => ⟨Row.hb_keep' (h.2 m hm).1 hk hp, Row.hb_keep' (h.2 m hm).2 hk hp⟩⟩
theorem RL.shapeN (h : RL B w V L) : ∃ x n cap, V = .slice x n cap ∧ n = L.length ∧ n ≤ cap ∧ RL B w (.slice x n cap) L := by
  obtain ⟨x, n, cap, rfl, hn, hc, -⟩ := h.1.shapeN
  exact ⟨x, n, cap, rfl, hn, hc, h⟩
theorem RL.empty (w : World) : RL w.heap.size (w.alloc (.cells #[] 131)) (.slice (some ⟨w.heap.size, 0, none⟩) 0 0) [] := ⟨Row.ownK_empty _ _ _ _, fun m hm => by cases hm⟩
theorem RL.push (h : RL B w V L) {m : Rlm} (h1 : HB B w m.1.v m.1.els) (h2 : HB B w m.2.v m.2.els) {V' : Value} (ho : OwnK 131 kRl.cells 2 B w' V' (L ++ [m])) (hg : w.grownBy w' V.ownBlock) : RL B w' V' (L ++ [m]) :=
  ⟨ho, fun y hy => by
    rcases List.mem_append.1 hy with hy | hy
    · exact ⟨(h.2 y hy).1.grownK h.1 (by decide) hg, (h.2 y hy).2.grownK h.1 (by decide) hg⟩
    · rw [List.mem_singleton.1 hy]
      exact ⟨h1.grownK h.1 (by decide) hg, h2.grownK h.1 (by decide) hg⟩⟩
theorem RL.at (h : RL B w V L) : kLRl.At w V (L.map kRl.strip) := by
  obtain ⟨ad, n, cap, rfl, hn, -, h⟩ := h.shapeN
  refine ⟨⟨ad, n, cap, L⟩, rfl, rfl, h.1.holds, fun m hm => ?_⟩
  obtain ⟨a1, a2⟩ := h.2 m hm
  obtain ⟨m1, m2⟩ := m
  exact ⟨⟨Row.holdsK_single.2 a1.holds, fun _ _ => trivial⟩, ⟨Row.holdsK_single.2 a2.holds, fun _ _ => trivial⟩⟩
end
def smR (L : List Rlm) : Prop := ∀ m ∈ L, bulk m.1.els ≤ 1000 ∧ bulk m.2.els ≤ 1000
def RulesD (B K : Nat) (V : Value) (w : World) : Prop := ∃ L, RL B w V L ∧ L.length ≤ K ∧ smR L
end Go.Proofs.YtlhchmjnaanjpaaGreatDoor.Draw
/- What calls leave that give a slice of the call's own; lists of bytes. No conditions. -/
namespace Go.Proofs.YtlhchmjnaanjpaaGreatDoor.Sl
open Go.ChangeShapes Go.WideShapes Go.ChangeAt Go.RowKit Go.Instr
set_option linter.unusedVariables false
set_option maxRecDepth 100000
def GivesB (w : World) (l : List Int) (e : Ending) (w' : World) : Prop := ∃ v, e = .returned v ∧ Own 5 .u8 w.heap.size w' v l ∧ Below w.heap.size w w'
def GivesI (w : World) (l : List Int) (e : Ending) (w' : World) : Prop := ∃ v, e = .returned v ∧ Own 3 .i64 w.heap.size w' v l ∧ Below w.heap.size w w'
theorem GivesB.to {w w' : World} {l m : List Int} {e : Ending} (h : GivesB w l e w') (hl : l = m) : GivesB w m e w' := hl ▸ h
def Byt (l : List Int) : Prop := ∀ x ∈ l, 0 ≤ x ∧ x ≤ 255
theorem Byt.at {l : List Int} (h : Byt l) {j : Nat} (hj : j < l.length) : 0 ≤ nth l j ∧ nth l j ≤ 255 := by rw [nth_eq hj]; exact h _ (List.getElem_mem hj)
theorem byt_of_wf {l : List Int} (h : ∀ x ∈ l, (Lit.int .u8 x).wf = true) : Byt l := fun x hx => by
  have e1 : IntKind.u8.min = 0 := rfl
  have e2 : IntKind.u8.max = 255 := rfl
  simpa [Lit.wf, e1, e2] using h x hx
end Go.Proofs.YtlhchmjnaanjpaaGreatDoor.Sl
/- Contracts of the reference model's draws of byte slices and of slices of integers: what is drawn lies in memory of the call's own; all else but the cursor is as it was. -/
namespace Go.Proofs.YtlhchmjnaanjpaaGreatDoor.Draw
open Go.ChangeShapes Go.WideShapes Go.ChangeAt Go.RowKit Go.Instr
open Sl (Holds Own Byt nth wpList_app holds_one own_empty elemBYTE elemINT)
set_option linter.unusedVariables false
set_option maxRecDepth 100000
theorem own_keep {e : TypeId} {k : IntKind} {B p : Nat} {w w' : World} {x : Value} {m : List Int} (h : Own e k B w x m) (hk : Keep p w w') (hp : p < B) : Own e k B w' x m := by
  refine ⟨h.1, ?_⟩
  rcases h.2 with h2 | ⟨g, cap, cur, hv, hg, hh, r⟩
  · exact Or.inl h2
  · exact Or.inr ⟨g, cap, cur, hv, hg, by rw [hk.block g (Array.getElem?_eq_some_iff.1 hh).1 (by omega)]; exact hh, r⟩
theorem byt_nil : Byt [] := fun x hx => by simp at hx
theorem byt_app {a b : List Int} (h : Byt a) (k : Byt b) : Byt (a ++ b) := fun x hx => by
  rcases List.mem_append.1 hx with h1 | h1
  · exact h x h1
  · exact k x h1
theorem byt_one {x : Int} (h0 : 0 ≤ x) (h1 : x ≤ 255) : Byt [x] := fun y hy => by
  obtain rfl : y = x := by simpa using hy
  exact ⟨h0, h1⟩
def BytesIn (B a b : Nat) (x : Value) (w : World) : Prop := ∃ m, Own 5 .u8 B w x m ∧ Byt m ∧ a ≤ m.length ∧ m.length ≤ b
set_option maxHeartbeats 1000000 in
theorem bytes (w0 : World) (p : Nat) (v : Value) (l : List UInt8) (w : World) (n : Nat) (hn : n ≤ 100000) (hc : Cur w0 p v l w) :
    Calls Tryz.prog 122 #[.pointer (some ⟨p, 0, none⟩), .int .i64 n] w (DrawnW w0 p v l w (BytesIn w.heap.size n n)) := by
  have hpl := hc.lt
  have HC := Lib.hid hc
  have H0 := Lib.hid (own_empty .u8 5 w)
  have C0 := Lib.hid (And.intro (hc.alloc (.cells #[] 5)) (keep_alloc p w (.cells #[] 5)))
  clear hc
  go_enter Tryz.func122, Tryz.ntmps122
  go_wp2_with fail
  go_loopw [5, 6] (fun ov iv wr => ∃ (k : Nat) (m : List Int), k ≤ n ∧ iv = .int .i64 k ∧ m.length = k ∧ Hid (Byt m) ∧ Hid (Own 5 .u8 w.heap.size wr ov m) ∧ Hid (Cur w0 p v l wr ∧ Keep p w wr)) (fun _ iv _ => n - (intOf iv).toNat)
  case atStart => exact ⟨0, [], Nat.zero_le _, rfl, rfl, Lib.hid byt_nil, H0, C0⟩
  case round =>
    obtain ⟨k, m, hk, rfl, hm, hB, ho, hcu⟩ := hrel
    have HM := Lib.hid hm; clear hm
    by_cases hlt : k < n
    · have hb := byte w0 p v l wr hcu.out.1
      have HB := Lib.hid hb; clear hb
      go_wp2_with fail
      refine HB.out.mono ?_
      rintro e w1 ⟨y, rfl, ⟨a, rfl, a0, a1⟩, hc1, hk1⟩
      have O1 := Lib.hid (own_keep ho.out hk1 hpl)
      have C1 := Lib.hid (And.intro hc1 (hcu.out.2.trans hk1))
      clear hc1 hk1
      go_wp2_with (at_builtin; refine wpList_app (k := .u8) (B := w.heap.size) (l := m) (m := [a]) rfl _ _ rfl Tryz.underlying22 elemBYTE rfl rfl rfl (O1.out.on ((Below.refl _ _).alloc (Nat.le_refl _) _)) (holds_one .u8 _ _ _) ?_ (by decide) ?_ ?_)
      · have := HM.out; simp; omega
      · have := C1.out.2.size; simp; omega
      intro v2 w2 ho2 hg
      have hlt2 := fun g hh => (O1.out.lt g hh).1
      have hc2 := (C1.out.1.alloc (.cells #[.int .u8 a] 5)).grown hg (fun g hh => ⟨by have := hlt2 g hh; have := HC.out.below.size; omega, by have := hlt2 g hh; omega⟩)
      have hk2 := (C1.out.2.trans (keep_alloc p w1 (.cells #[.int .u8 a] 5))).grown hg hlt2
      have HO2 := Lib.hid ho2; have C2 := Lib.hid (And.intro hc2 hk2)
      clear ho2 hg hc2 hk2 hlt2
      go_wp2_with fail
      go_roundw
      case rel => exact ⟨k + 1, m ++ [a], by omega, by go_num, by rw [List.length_append, HM.out]; rfl, Lib.hid (byt_app hB.out (byt_one a0 a1)), HO2, C2⟩
      case measure => simp [intOf]; omega
    · obtain rfl : k = n := by omega
      clear hlt
      go_wp2_with fail
      go_ret
      exact ⟨_, rfl, ⟨m, ho.out, hB.out, by rw [HM.out]; omega, by rw [HM.out]; omega⟩, hcu.out.1, hcu.out.2⟩
def IntsIn (B b : Nat) (x : Value) (w : World) : Prop := ∃ m, Own 3 .i64 B w x m ∧ (∀ y ∈ m, (Lit.int .i64 y).wf = true) ∧ m.length ≤ b
end Go.Proofs.YtlhchmjnaanjpaaGreatDoor.Draw
/- Contracts of the helpers by which the laws measure, copy, compare, mark and look at interests (a name and three numbers). No conditions but that lengths fit. -/
namespace Go.Proofs.YtlhchmjnaanjpaaGreatDoor.Row
open Go.ChangeShapes Go.WideShapes Go.ChangeAt Go.RowKit Go.Instr
set_option linter.unusedVariables false
set_option maxRecDepth 100000
abbrev wc (v : Value) (a b c : Int) : Array Value := #[v, .int .i64 a, .int .i64 b, .int .i64 c]
theorem own_set {α : Type} [Inhabited α] {enc : α → Value} {e : TypeId} {B g i : Nat} {w : World} {v u : Value} {l : List α} (h : Own e enc B w v l) (hg : g < B) : Own e enc B (w.setCell ⟨g, i, none⟩ u) v l := h.grown (Ret.grownBy_set w ⟨g, i, none⟩ u) (nb h hg)
end Go.Proofs.YtlhchmjnaanjpaaGreatDoor.Row
