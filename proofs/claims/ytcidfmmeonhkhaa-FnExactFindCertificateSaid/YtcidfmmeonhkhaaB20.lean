/- Contracts and mathematics, joined: KRing, TrustB, TrustC, NameMath, Let, VPat, VPat2, Bind, Find, Step, Match, Match2, Match3, Split, ParseN, PParse, RuleM, FindK, TrustMath. No conditions but those that each states. -/
import Derived.Test.YtcidfmmeonhkhaaB10
import Derived.Test.YtcidfmmeonhkhaaB18
import Derived.Test.YtcidfmmeonhkhaaB19
import Derived.Test.YtcidfmmeonhkhaaB13
import Derived.Test.YtcidfmmeonhkhaaB9
import Derived.Test.YtcidfmmeonhkhaaB11
import Derived.Lib.Join
import Derived.Test.YtcidfmmeonhkhaaB5
import Derived.Test.YtcidfmmeonhkhaaB2
import Derived.Lib.OthersKept
import Derived.WalkKit
import Derived.Deep.RegionHeld3
import Derived.Test.YtcidfmmeonhkhaaB6
import Derived.Test.YtcidfmmeonhkhaaB4
/- Lists of keys, and a key, in the words of the exact laws; chapter 9's functions, the model's and the program's, in these words. No conditions but that lengths fit. -/
namespace Go.Proofs.Ytcidfmmeonhkhaa.Row.Ring
open Go.ChangeShapes Go.WideShapes Go.ChangeAt Go.RowKit Go.Instr
set_option linter.unusedVariables false
set_option maxRecDepth 100000

abbrev Kt := List (List ByteArray × Int)
def kK.At (w : World) (V : Value) (T : Kt) : Prop := TabHolds w V T
def kK.In (B E : Nat) (w : World) (V : Value) (T : Kt) : Prop := TabIn B E w V T
section
variable {B E B' E' : Nat} {w w' : World} {V : Value} {T : Kt}
theorem kK.At.on (h : kK.At w V T) (hb : Below w.heap.size w w') : kK.At w' V T := TabHolds.on h hb
theorem kK.In.on (h : kK.In B E w V T) (hb : Below w.heap.size w w') : kK.In B E w' V T := TabIn.on h hb
theorem kK.In.at (h : kK.In B E w V T) : kK.At w V T := TabIn.holds h
theorem kK.In.wrote (h : kK.In B E w V T) (hw : Wrote B' E' w w') (hn : E ≤ B' ∨ E' ≤ B) : kK.In B E w' V T := TabIn.wrote h hw hn
theorem kK_shape (h : kK.In B E w V T) : ∃ x n c, V = .slice x n c ∧ kK.In B E w (.slice x n c) T := by
  obtain ⟨x, n, c, rfl, -, -, -⟩ := (TabIn.holds h).shapeN
  exact ⟨x, n, c, rfl, h⟩
theorem kK_shapeA (h : kK.At w V T) : ∃ x n c, V = .slice x n c ∧ kK.At w (.slice x n c) T := by
  obtain ⟨x, n, c, rfl, -, -, h⟩ := TabHolds.shapeN h
  exact ⟨x, n, c, rfl, h⟩
end
theorem adv_big {T : Kt} {n : Nat} (h : bulkT T ≤ n) : adv T ≤ n := Nat.le_trans (adv_bulk T) h
theorem lnT_adv {T : Kt} (h : adv T ≤ 9000000) : lnT T := fun t ht => by
  obtain ⟨j, hj, rfl⟩ := List.getElem_of_mem ht
  have h1 := adv_take hj
  have h2 := adv_take_le T (j + 1)
  rw [nth_eq hj] at h1
  omega
theorem szKK (V : Value) (T : Kt) (w : World) (left : Int) (h : kK.At w V T) (hl : T.length ≤ 9223372036854775807) (hs : ∀ t ∈ T, t.1.length ≤ 9223372036854775807 ∧ (∀ x ∈ t.1, x.size ≤ maxLen) ∧ (Lit.int .i64 t.2).wf = true) (h0 : 0 ≤ left) (h1 : left ≤ 1048576) :
    Calls Try.prog 13 #[V, .int .i64 left] w fun e w' => e = .returned (.int .i64 (szLT T left)) ∧ Below w.heap.size w w' :=
  szKeyS V T w left h hl (fun t ht => ⟨(hs t ht).1, (hs t ht).2.1⟩) h0 h1
theorem toKK (V : Value) (T : Kt) (w : World) (h : kK.At w V T) (hl : bulkT T ≤ 9000000) :
    Calls Try.prog 16 #[V] w fun e w' => ∃ U, e = .returned U ∧ kK.In w.heap.size w'.heap.size w' U T ∧ Below w.heap.size w w' :=
  (toKeyS V T w h (by have := bulkT_len T; omega) (fun t ht => by have := bulkT_mem ht; have := bulk_len t.1; omega)).mono fun e w' ⟨v, a, b, c⟩ => ⟨v, a, TabIn.of b |> fun h => (by
    obtain ⟨L, e, h, h1, h2⟩ := h
    exact ⟨L, e, h, h1, h2⟩), c⟩
theorem sameKK (V U : Value) (T : Kt) (w : World) (h : kK.At w V T) (g : kK.At w U T) (hl : adv T ≤ 9000000) :
    Calls Try.prog 20 #[V, U] w fun e w' => e = .returned (.bool true) ∧ Below w.heap.size w w' := by
  have hl2 : T.length ≤ 140737488351232 := by have := adv_len T; omega
  have := eqKeyS V U T T w h g hl2 hl2 (lnT_adv hl) (lnT_adv hl)
  rwa [eqT_self] at this
theorem markKK (B E : Nat) (V : Value) (T : Kt) (w : World) (k : Int) (h : kK.In B E w V T) (hl : adv T ≤ 100000000) (h0 : 0 ≤ k) (h1 : k ≤ 1000000000) :
    Calls Try.prog 22 #[V, .int .i64 k] w fun e w' => e = .returned (.int .i64 (k + (adv T : Int))) ∧ kK.In B E w' V (markTb k T) ∧ Wrote B E w w' := markKeyS B E V T w k h hl h0 (by omega)
/-! ### a key -/
abbrev K1 := List ByteArray × Int
def k1.At (w : World) (V : Value) (x : K1) : Prop := ∃ v, V = .agg #[v, .int .i64 x.2] ∧ Holds Value.string w v x.1
def k1.In (B E : Nat) (w : World) (V : Value) (x : K1) : Prop := ∃ v, V = .agg #[v, .int .i64 x.2] ∧ Own 9 Value.string B w v x.1 ∧ ∀ g, v.ownBlock = some g → g < E
section
variable {B E B' E' : Nat} {w w' : World} {V : Value} {x : K1}
theorem k1.At.on (h : k1.At w V x) (hb : Below w.heap.size w w') : k1.At w' V x := by
  obtain ⟨v, rfl, h⟩ := h
  exact ⟨v, rfl, h.on hb⟩
theorem k1.In.on (h : k1.In B E w V x) (hb : Below w.heap.size w w') : k1.In B E w' V x := by
  obtain ⟨v, rfl, h, h1⟩ := h
  exact ⟨v, rfl, h.on hb, h1⟩
theorem k1.In.at (h : k1.In B E w V x) : k1.At w V x := by
  obtain ⟨v, rfl, h, h1⟩ := h
  exact ⟨v, rfl, h.holds⟩
theorem k1.In.wrote (h : k1.In B E w V x) (hw : Wrote B' E' w w') (hn : E ≤ B' ∨ E' ≤ B) : k1.In B E w' V x := by
  obtain ⟨v, rfl, h, h1⟩ := h
  exact ⟨v, rfl, hw.row h (fun g hg => by have := (h.lt g hg).1; have := h1 g hg; omega), h1⟩
end
def WfK1 (x : K1) : Prop := (∀ y ∈ x.1, y.size ≤ maxLen) ∧ (Lit.int .i64 x.2).wf = true
def mk1 (k : Int) (x : K1) : K1 := (marks markT k x.1.length, x.2)
/-! ### the functions -/
theorem len_bulkT {T : Kt} (h : bulkT T ≤ 1200000) : T.length ≤ 3000000 := by have := bulkT_len T; omega
theorem sm_bulkT {T : Kt} (h : bulkT T ≤ 1200000) : smT T := smT_of (by omega)
theorem sgK_adv (T : Kt) (key n : List ByteArray) (b : List Int) (u : Int) : advD (sgK T key n b u) ≤ n.length + b.length + key.length + 2 := by
  unfold sgK
  split
  · unfold sgX; rw [sgD_adv]; unfold advD; simp only; omega
  · unfold zD advD; simp
theorem specSecretOfK (V U : Value) (T : Kt) (m : List ByteArray) (w : World) (h : kK.At w V T) (g : kN.At w U m) (hl : bulkT T ≤ 1200000) (hm : bulk m ≤ 1200000) :
    Calls Try.prog 54 #[V, U] w fun e w' => e = .returned (.int .i64 (lkN T m)) ∧ Below w.heap.size w w' := by
  obtain ⟨v, rfl, g9⟩ := kN_at g
  exact specSecretOf V v T m w h g9 (Nat.le_trans (len_bulkT hl) (by decide)) (sm_bulkT hl) (by omega)
theorem specSignWithKeyK (V U1 U2 U3 : Value) (T : Kt) (lk ln : List ByteArray) (lb : List Int) (u : Int) (w : World) (h : kK.At w V T) (g1 : kN.At w U1 lk) (g2 : kN.At w U2 ln) (g3 : kB.At w U3 lb) (hB : Sl.Byt lb) (hl : bulkT T ≤ 1200000) (h1 : bulk lk ≤ 1200000) (h2 : bulk ln ≤ 1200000) (h3 : lb.length ≤ 1200000) :
    Calls Try.prog 77 #[V, U1, U2, U3, .int .i64 u] w fun e w' => ∃ X, e = .returned (.tuple #[X, .bool (sgOk T lk ln lb u)]) ∧ kD.In w.heap.size w'.heap.size w' X (sgK T lk ln lb u) ∧ Below w.heap.size w w' := by
  obtain ⟨v1, rfl, g8⟩ := kN_at g1
  obtain ⟨v2, rfl, g9⟩ := kN_at g2
  exact giveDB (specSignWithKey V v1 v2 U3 T lk ln lb u w h g8 g9 (kS_at g3) hB (Nat.le_trans (len_bulkT hl) (by decide)) (sm_bulkT hl) h1 h2 h3)
theorem specVerifySignatureK (V U : Value) (T : Kt) (x : Dt) (w : World) (h : kK.At w V T) (g : kD.At w U x) (gn : WfD x) (hl : bulkT T ≤ 1200000) (hx : bulkD x ≤ 1200000) :
    Calls Try.prog 67 #[V, U] w fun e w' => e = .returned (.bool (verD (lkN T x.2.2.1) x)) ∧ Below w.heap.size w w' := specVerifySignature V U T x w h g gn (Nat.le_trans (len_bulkT hl) (by decide)) (sm_bulkT hl) hx
theorem implSecretOfK (V U : Value) (T : Kt) (m : List ByteArray) (w : World) (h : kK.At w V T) (g : kN.At w U m) (hl : bulkT T ≤ 1200000) (hm : bulk m ≤ 1200000) :
    Calls Try.prog 59 #[V, U] w fun e w' => e = .returned (.int .i64 (lkN T m)) ∧ Below w.heap.size w w' := by
  obtain ⟨v, rfl, g9⟩ := kN_at g
  exact implSecretOf V v T m w h g9 (Nat.le_trans (len_bulkT hl) (by decide)) (sm_bulkT hl) (by omega)
theorem implSignWithKeyK (V U1 U2 U3 : Value) (T : Kt) (lk ln : List ByteArray) (lb : List Int) (u : Int) (w : World) (h : kK.At w V T) (g1 : kN.At w U1 lk) (g2 : kN.At w U2 ln) (g3 : kB.At w U3 lb) (hB : Sl.Byt lb) (hl : bulkT T ≤ 1200000) (h1 : bulk lk ≤ 1200000) (h2 : bulk ln ≤ 1200000) (h3 : lb.length ≤ 1200000) :
    Calls Try.prog 78 #[V, U1, U2, U3, .int .i64 u] w fun e w' => ∃ X, e = .returned (.tuple #[X, .bool (sgOk T lk ln lb u)]) ∧ kD.In w.heap.size w'.heap.size w' X (sgK T lk ln lb u) ∧ Below w.heap.size w w' := by
  obtain ⟨v1, rfl, g8⟩ := kN_at g1
  obtain ⟨v2, rfl, g9⟩ := kN_at g2
  exact giveDB (implSignWithKey V v1 v2 U3 T lk ln lb u w h g8 g9 (kS_at g3) hB (Nat.le_trans (len_bulkT hl) (by decide)) (sm_bulkT hl) h1 h2 h3)
theorem implVerifySignatureK (V U : Value) (T : Kt) (x : Dt) (w : World) (h : kK.At w V T) (g : kD.At w U x) (gn : WfD x) (hl : bulkT T ≤ 1200000) (hx : bulkD x ≤ 1200000) :
    Calls Try.prog 74 #[V, U] w fun e w' => e = .returned (.bool (verD (lkN T x.2.2.1) x)) ∧ Below w.heap.size w w' := implVerifySignature V U T x w h g gn (Nat.le_trans (len_bulkT hl) (by decide)) (sm_bulkT hl) hx
end Go.Proofs.Ytcidfmmeonhkhaa.Row.Ring
/- Lists of keys and data packets of kstruct.py's kinds, as chapters 8 and 9 read them. No conditions. -/
namespace Go.Proofs.Ytcidfmmeonhkhaa.Row
open Go.ChangeShapes Go.WideShapes Go.ChangeAt Go.RowKit Go.Instr
set_option linter.unusedVariables false
set_option maxRecDepth 100000

/-! ### what is read as a kind is read as the elder words say -/
theorem kD_ofK {w : World} {V : Value} {x : Dzt} (h : kDz.At w V x) : kD.At w V x := by
  obtain ⟨x0, n0, c0, x1, n1, c1, x2, n2, c2, rfl, g0, g1, g2⟩ := kDz_at h
  obtain ⟨v, e, h0⟩ := kN_at g0
  cases e
  obtain ⟨v, e, h1⟩ := kB_at g1
  cases e
  obtain ⟨v, e, h2⟩ := kN_at g2
  cases e
  exact kD_of (x := x) ⟨h0, h1, h2⟩
def entOf (m : Kym) : Ring.Ent := ⟨m.1.ad, m.1.n, m.1.cap, m.1.els, m.2⟩
theorem kK_ofK {w : World} {V : Value} {l : List Kyt} (h : kLKy.At w V l) : Ring.kK.At w V l := by
  obtain ⟨ad, n, cap, L, rfl, hn, rfl, hh, hel⟩ := kLKy_at h
  have hc : ∀ m : Kym, Ring.encE (entOf m) = kKy.cells m := fun m => rfl
  have hf : ∀ L : List Kym, flat Ring.encE (L.map entOf) = flat kKy.cells L := fun L => by
    unfold flat
    rw [List.flatMap_map]
    rfl
  refine ⟨L.map entOf, ?_, ?_, fun x hx => ?_⟩
  · unfold Ring.strip
    rw [List.map_map]
    refine List.map_congr_left fun m hm => ?_
    show (m.1.els, m.2) = (kN.strip m.1, m.2)
    rw [kN_strip]
  · obtain ⟨a, b, hv, hb, h9⟩ := hh
    refine ⟨a, b, by rw [List.length_map]; exact hv, by rw [List.length_map]; exact hb, ?_⟩
    rcases h9 with h9 | ⟨g, off, e, h9⟩
    · exact Or.inl (by rw [h9]; rfl)
    · exact Or.inr ⟨g, off, e, by rw [hf, List.length_map]; exact h9⟩
  · obtain ⟨m, hm, rfl⟩ := List.mem_map.1 hx
    have h1 := (hel m hm).1
    obtain ⟨v, e, h2⟩ := kN_at (Kd.at_of (k := kN) h1)
    rw [kN_strip] at h2
    have e2 : v = m.1.v := by
      have e3 : (Value.agg #[m.1.v]) = .agg #[v] := e
      injection e3 with e3
      exact (List.cons.inj (congrArg Array.toList e3)).1.symm
    rw [e2] at h2
    exact h2

end Go.Proofs.Ytcidfmmeonhkhaa.Row
/- The model's KeyDigest. No conditions but that lengths fit. -/
namespace Go.Proofs.Ytcidfmmeonhkhaa.Row
open Go.ChangeShapes Go.WideShapes Go.ChangeAt Go.RowKit Go.Instr
set_option linter.unusedVariables false
set_option maxRecDepth 100000

/-- What a key's certificate holds: nothing where there is no such key. -/
def digK (T : Ring.Kt) (m : List ByteArray) : List Int := if Ring.lkN T m = 0 then [] else Var.var (Seal.digest [Ring.lkN T m])
theorem digK_len (T : Ring.Kt) (m : List ByteArray) : (digK T m).length ≤ 6 := by
  unfold digK
  split
  · simp
  · exact Var.var_len _

set_option maxHeartbeats 4000000 in
theorem specKeyDigest (V U : Value) (T : Ring.Kt) (m : List ByteArray) (w : World) (z : List Int) (hz : digK T m = z) (h : Ring.kK.At w V T) (g : kN.At w U m) (hl : Ring.bulkT T ≤ 1200000) (hm : bulk m ≤ 1200000) :
    Calls Try.prog 15 #[V, U] w (Sl.GivesB w z) := by
  obtain ⟨x, n, c, rfl, h⟩ := Ring.kK_shapeA h
  obtain ⟨xn, nn, cn, rfl, g⟩ := kN_shapeA g
  have hal := (Below.refl w.heap.size w).alloc (Nat.le_refl _) (.cells #[.slice xn nn cn] 47)
  have HB := Lib.hid hal
  have HC := Lib.hid (Ret.Box.new w (.slice xn nn cn) 47)
  have HS := Lib.hid (Ring.specSecretOfK _ _ T m _ (h.on hal) (g.on hal) hl hm)
  have HZ := Lib.hid hz
  clear h g hal hz hl hm
  go_enter Try.func15, Try.ntmps15
  have c0 := HC.out.cell
  go_wp2_with fail
  refine HS.out.mono ?_
  rintro e w1 ⟨rfl, hb⟩
  replace HB := Lib.hid (HB.out.trans (hb.mono HB.out.size))
  clear hb c0 HS HC
  obtain ⟨s, hs⟩ : ∃ s, Ring.lkN T m = s := ⟨_, rfl⟩
  rw [hs]
  have HK := Lib.hid hs
  clear hs
  by_cases h0 : s = 0
  · subst h0
    have HE := Lib.hid (show z = [] by rw [← HZ.out]; unfold digK; rw [if_pos HK.out])
    have HO := Lib.hid (Sl.own_empty .u8 5 w1)
    go_wp2_with fail
    go_ret
    exact ⟨_, rfl, by rw [HE.out]; exact Sl.Own.mono HO.out HB.out.size, HB.out.alloc HB.out.size _⟩
  · have HE := Lib.hid (show z = [] ++ Var.var (Seal.digest [s]) by rw [← HZ.out]; unfold digK; rw [HK.out, if_neg h0]; rfl)
    have hb1 := (Below.refl w1.heap.size w1).alloc (Nat.le_refl _) (.cells #[] 5)
    have hb2 := (Below.refl (w1.alloc (.cells #[] 5)).heap.size (w1.alloc (.cells #[] 5))).alloc (Nat.le_refl _) (.cells #[.int .i64 s] 3)
    have HO := Lib.hid ((Sl.own_empty .u8 5 w1).holds.on hb2)
    have hi := Sl.holds_one .i64 3 (w1.alloc (.cells #[] 5)) s
    rw [World.size_alloc] at hi
    have HI := Lib.hid hi
    clear hi
    have HBB := Lib.hid ((HB.out.trans (hb1.mono HB.out.size)).trans (hb2.mono (Nat.le_trans HB.out.size hb1.size)))
    clear hb1 hb2
    go_wp2_with fail
    refine (Sl.specDigest _ [s] _ HI.out (by simp)).mono ?_
    rintro e w2 ⟨rfl, rfl⟩
    go_wp2_with fail
    refine (Sl.specAppendVarint _ [] _ _ HO.out (by decide)).mono ?_
    rintro e w3 ⟨v, rfl, ho, hb⟩
    have HV := Lib.hid (Sl.Own.mono ho HBB.out.size); have HB3 := Lib.hid (HBB.out.trans (hb.mono HBB.out.size))
    clear ho hb
    go_wp2_with fail
    go_ret
    exact ⟨_, rfl, by rw [HE.out]; exact HV.out, HB3.out⟩
end Go.Proofs.Ytcidfmmeonhkhaa.Row
/- Plain mathematics of names and their texts, no program in sight: a text is split at its slashes; joined again it is the text; a joined list of parts without slashes is split into the parts; runes and bytes. No conditions. -/
namespace Go.Proofs.Ytcidfmmeonhkhaa.Row
open Go.ChangeShapes Go.WideShapes Go.ChangeAt Go.RowKit Go.Instr
set_option linter.unusedVariables false
set_option maxRecDepth 100000

def bl (s : ByteArray) : List UInt8 := s.data.toList
def mk (l : List UInt8) : ByteArray := ⟨l.toArray⟩
theorem bl_length (s : ByteArray) : (bl s).length = s.size := by
  show s.data.toList.length = s.data.size
  exact Array.length_toList
theorem bl_get (s : ByteArray) (i : Nat) (h : i < s.size) : (bl s)[i]'(by rw [bl_length]; exact h) = s[i]'h := by
  simp [bl]; rfl
/-! ### splitting at slashes -/
def goS (cur : List UInt8) : List UInt8 → List (List UInt8)
  | [] => [cur]
  | c :: t => if c = 47 then cur :: goS [] t else goS (cur ++ [c]) t
/-! ### texts of names -/
def fmtL (l : List ByteArray) : List UInt8 := 47 :: Lib.join (l.map bl) [47]
def fmtS (l : List ByteArray) : ByteArray := mk (fmtL l)
def splitB (s : ByteArray) : List ByteArray := (goS [] (bl s)).map mk
def fullB (s : ByteArray) : Bool := decide (s.size ≠ 0)
def partsB (s : ByteArray) : List ByteArray := (splitB s).filter fullB
def pOk (s : ByteArray) : Bool := validN (partsB s) && decide (fmtS (partsB s) = s)
def pN (s : ByteArray) : List ByteArray := if pOk s = true then partsB s else []
/-! ### runs of bytes and runes -/
def seg (s : ByteArray) (f i : Nat) : List UInt8 := ((bl s).drop f).take (i - f)
def rest (s : ByteArray) (i : Nat) : List UInt8 := (bl s).drop i
theorem rest_cons (s : ByteArray) {i : Nat} (h : i < s.size) : rest s i = s[i]'h :: rest s (i + 1) := by
  unfold rest
  rw [List.drop_eq_getElem_cons (by rw [bl_length]; exact h), bl_get s i h]
theorem seg_succ (s : ByteArray) {f i : Nat} (hf : f ≤ i) (h : i < s.size) : seg s f (i + 1) = seg s f i ++ [s[i]'h] := by
  unfold seg
  have e : i + 1 - f = (i - f) + 1 := by omega
  rw [e, List.take_add_one, List.getElem?_drop, show f + (i - f) = i by omega, List.getElem?_eq_getElem (by rw [bl_length]; exact h), bl_get s i h]
  rfl
theorem goS_byte (s : ByteArray) {f i : Nat} (hf : f ≤ i) (h : i < s.size) (hc : s[i]'h ≠ 47) : goS (seg s f i) (rest s i) = goS (seg s f (i + 1)) (rest s (i + 1)) := by
  rw [rest_cons s h, goS, if_neg hc, seg_succ s hf h]
theorem goS_bytes (s : ByteArray) {f i : Nat} (hf : f ≤ i) : ∀ m, (hm : i + m ≤ s.size) → (∀ j (hj : j < m), s[i + j]'(by omega) ≠ 47) → goS (seg s f i) (rest s i) = goS (seg s f (i + m)) (rest s (i + m))
  | 0, _, _ => rfl
  | m + 1, hm, hc => by
    rw [goS_bytes s hf m (by omega) (fun j hj => hc j (by omega)), goS_byte s (by omega) (by omega) (hc m (by omega))]
    rfl

end Go.Proofs.Ytcidfmmeonhkhaa.Row
/- What a pattern's parts are: a variable (a question mark and a letter), the program's and the model's test of it; the texts * and **; which parts are right. No conditions but that lengths fit. -/
namespace Go.Proofs.Ytcidfmmeonhkhaa.Row
open Go.ChangeShapes Go.WideShapes Go.ChangeAt Go.RowKit Go.Instr
set_option linter.unusedVariables false
set_option maxRecDepth 100000

def letterP (s : ByteArray) : Bool := decide (∃ h : s.size = 2, (s[0]'(by omega)).toNat = 63 ∧ 97 ≤ (s[1]'(by omega)).toNat ∧ (s[1]'(by omega)).toNat ≤ 122)
end Go.Proofs.Ytcidfmmeonhkhaa.Row
/- ValidPattern, the program's and the model's, and what the program makes of a pattern's parts (interface values). No conditions but that lengths fit. -/
namespace Go.Proofs.Ytcidfmmeonhkhaa.Row
open Go.ChangeShapes Go.WideShapes Go.ChangeAt Go.RowKit Go.Instr
set_option linter.unusedVariables false
set_option maxRecDepth 100000

def starB : ByteArray := { data := #[42] }
def star2B : ByteArray := { data := #[42, 42] }
/-- Whether a text is a part of a pattern; whether it is the last one. -/
def elemP (s : ByteArray) (last : Bool) : Bool := validP s || decide (s = starB) || letterP s || (decide (s = star2B) && last)
def validPat (l : List ByteArray) : Bool := decide (l.length ≤ 6 ∧ ∀ j, j < l.length → elemP (nth l j) (decide (j + 1 = l.length)) = true)
def allE (l : List ByteArray) (k : Nat) : Prop := ∀ j, j < k → elemP (nth l j) (decide (j + 1 = l.length)) = true
/-- The value that the program makes of a part. -/
def encPt (s : ByteArray) : Value :=
  if validP s = true then .iface 165 (.agg #[.string s]) else if s = starB then .iface 167 (.agg #[]) else if letterP s = true then .iface 169 (.agg #[.string s]) else .iface 170 (.agg #[])
def ifP (c : Bool) (l : List ByteArray) : List ByteArray := if c = true then l else []
end Go.Proofs.Ytcidfmmeonhkhaa.Row
/- Contracts of ValidPattern, the program's and the model's. No conditions but that lengths fit. -/
namespace Go.Proofs.Ytcidfmmeonhkhaa.Row
open Go.ChangeShapes Go.WideShapes Go.ChangeAt Go.RowKit Go.Instr
set_option linter.unusedVariables false
set_option maxRecDepth 100000

end Go.Proofs.Ytcidfmmeonhkhaa.Row
/- Contracts of the helpers by which the laws measure, copy, compare, mark and look at slices of bindings (two strings each). No conditions but that lengths fit. -/
namespace Go.Proofs.Ytcidfmmeonhkhaa.Row
open Go.ChangeShapes Go.WideShapes Go.ChangeAt Go.RowKit Go.Instr
set_option linter.unusedVariables false
set_option maxRecDepth 100000

/-- A binding: its letter and its value. -/
def encBd (x : ByteArray × ByteArray) : List Value := [.string x.1, .string x.2]
/-- Length and sizes of a list of bindings together, up to place k. -/
def bulk2To (l : List (ByteArray × ByteArray)) (k : Nat) : Nat := l.length + ((l.take k).map (fun x => x.1.size + x.2.size)).sum
def bulk2 (l : List (ByteArray × ByteArray)) : Nat := bulk2To l l.length
def szL2 (l : List (ByteArray × ByteArray)) (left : Int) : Int := if (bulk2 l : Int) ≤ left then left - bulk2 l else -1
/-! ### comparing -/
def eqBd (l m : List (ByteArray × ByteArray)) : Bool := decide (l = m)
/-! ### marking -/
/-- The elements that a marking writes: from k on, two numbers an element. -/
def mark2 (k : Int) : Nat → List (ByteArray × ByteArray)
  | 0 => []
  | n + 1 => mark2 k n ++ [(markT (k + 2 * n), markT (k + 2 * n + 1))]
def marked2 (k : Int) (l : List (ByteArray × ByteArray)) (j : Nat) : List (ByteArray × ByteArray) := mark2 k j ++ l.drop j
end Go.Proofs.Ytcidfmmeonhkhaa.Row
/- Contracts of the search for a binding, the program's (by a closure handed to slices.IndexFunc) and the model's, and of BindingValue. No conditions but that lengths fit. -/
namespace Go.Proofs.Ytcidfmmeonhkhaa.Row
open Go.ChangeShapes Go.WideShapes Go.ChangeAt Go.RowKit Go.Instr
set_option linter.unusedVariables false
set_option maxRecDepth 100000

def isK (k : ByteArray) (x : ByteArray × ByteArray) : Bool := decide (x.1 = k)
/-- The place of the first binding of k; how many there are, if there is none. -/
def fi (l : List (ByteArray × ByteArray)) (k : ByteArray) : Nat := l.findIdx (isK k)
def ixB (l : List (ByteArray × ByteArray)) (k : ByteArray) : Int := if fi l k < l.length then (fi l k : Int) else -1
def bvB (l : List (ByteArray × ByteArray)) (k : ByteArray) : ByteArray := if fi l k < l.length then (nth l (fi l k)).2 else ByteArray.empty
def noK (l : List (ByteArray × ByteArray)) (k : ByteArray) (i : Nat) : Prop := ∀ j, j < i → ¬ (nth l j).1 = k
end Go.Proofs.Ytcidfmmeonhkhaa.Row
/- Contracts of slices.Clone on bindings and of matchPart (one part of a pattern against one part of a name). No conditions but that lengths fit. -/
namespace Go.Proofs.Ytcidfmmeonhkhaa.Row
open Go.ChangeShapes Go.WideShapes Go.ChangeAt Go.RowKit Go.Instr
set_option linter.unusedVariables false
set_option maxRecDepth 100000

/-- A result that is a slice of bindings of the call's own. -/
def GivesBd (w : World) (l : List (ByteArray × ByteArray)) (e : Ending) (w' : World) : Prop := ∃ v, e = .returned v ∧ OwnK 193 encBd 2 w.heap.size w' v l ∧ Below w.heap.size w w'

/-- One part of a pattern against one part of a name, with the bindings so far. -/
def stepM (s t : ByteArray) (l : List (ByteArray × ByteArray)) : Option (List (ByteArray × ByteArray)) :=
  if s = starB then some l else if letterP s = true then (if fi l s < l.length then (if (nth l (fi l s)).2 = t then some l else none) else some (l ++ [(s, t)])) else (if s = t then some l else none)
def stepM' (s t : ByteArray) (l : List (ByteArray × ByteArray)) : Option (List (ByteArray × ByteArray)) := if fi l s < l.length then (if (nth l (fi l s)).2 = t then some l else none) else some (l ++ [(s, t)])
/-- What matchPart answers: a slice of its own and whether it matched. -/
def GivesStep (B : Nat) (w : World) (l : List (ByteArray × ByteArray)) (o : Option (List (ByteArray × ByteArray))) (e : Ending) (w' : World) : Prop :=
  ∃ v, e = .returned (.tuple #[v, .bool o.isSome]) ∧ OwnK 193 encBd 2 B w' v (o.getD l) ∧ Below B w w'
end Go.Proofs.Ytcidfmmeonhkhaa.Row
/- Contracts of matchParts (the parts of a pattern against those of a name) and of Match, the program's and the model's. No conditions but that lengths fit. -/
namespace Go.Proofs.Ytcidfmmeonhkhaa.Row
open Go.ChangeShapes Go.WideShapes Go.ChangeAt Go.RowKit Go.Instr
set_option linter.unusedVariables false
set_option maxRecDepth 100000

/-- The parts of a pattern against those of a name, with the bindings so far. -/
def matchL : List ByteArray → List ByteArray → List (ByteArray × ByteArray) → Option (List (ByteArray × ByteArray))
  | [], [], l => some l
  | [], _ :: _, _ => none
  | s :: ps, [], l => if s = star2B then some l else none
  | s :: ps, t :: ts, l => if s = star2B then some l else match stepM s t l with
    | none => none
    | some m => matchL ps ts m
/-- What matchParts answers. -/
def GivesM (B : Nat) (w : World) (o : Option (List (ByteArray × ByteArray))) (e : Ending) (w' : World) : Prop :=
  ∃ v, e = .returned (.tuple #[v, .bool o.isSome]) ∧ (∀ m, o = some m → OwnK 193 encBd 2 B w' v m) ∧ Below B w w'

theorem Far.below {α : Type} [Inhabited α] {enc : α → Value} {B : Nat} {w w' : World} {v : Value} {l : List α} (h : Far enc B w v l) (hb : Below B w w') : Holds enc w' v l := by
  obtain ⟨x, cap, hv, hc, hh⟩ := h
  refine ⟨x, cap, hv, hc, ?_⟩
  rcases hh with h1 | ⟨b, off, hx, hlt, h2⟩
  · exact Or.inl h1
  · exact Or.inr ⟨b, off, hx, fun j hj => by rw [hb.cell (p := ⟨b, off + j, none⟩) hlt]; exact h2 j hj⟩
theorem Far.shapeN {α : Type} [Inhabited α] {enc : α → Value} {B : Nat} {w : World} {v : Value} {l : List α} (h : Far enc B w v l) : ∃ x n cap, v = .slice x n cap ∧ n = l.length ∧ n ≤ cap ∧ Far enc B w (.slice x n cap) l := by
  obtain ⟨x, cap, rfl, hc, ho⟩ := h
  exact ⟨x, _, cap, rfl, rfl, hc, x, cap, rfl, hc, ho⟩

end Go.Proofs.Ytcidfmmeonhkhaa.Row
/- Contracts of Match and Matches, the program's and the model's. No conditions but that lengths fit. -/
namespace Go.Proofs.Ytcidfmmeonhkhaa.Row
open Go.ChangeShapes Go.WideShapes Go.ChangeAt Go.RowKit Go.Instr
set_option linter.unusedVariables false
set_option maxRecDepth 100000

def matchB (p q : List ByteArray) (l : List (ByteArray × ByteArray)) : Option (List (ByteArray × ByteArray)) := if validPat p = true ∧ validN q = true then matchL p q l else none
end Go.Proofs.Ytcidfmmeonhkhaa.Row
/- Contracts of the model's Match and Matches. No conditions but that lengths fit. -/
namespace Go.Proofs.Ytcidfmmeonhkhaa.Row
open Go.ChangeShapes Go.WideShapes Go.ChangeAt Go.RowKit Go.Instr
set_option linter.unusedVariables false
set_option maxRecDepth 100000

theorem _root_.Go.Proofs.Ytcidfmmeonhkhaa.Ret.Box.below {w w' : World} {g B : Nat} {u : Value} {t : TypeId} (h : Ret.Box w g u t) (hg : g < B) (hb : Below B w w') : Ret.Box w' g u t := (hb.block g hg).trans h

/-- What Match answers, in one name each. -/
def mOk (p q : List ByteArray) (l : List (ByteArray × ByteArray)) : Bool := (matchB p q l).isSome
def mOut (p q : List ByteArray) (l : List (ByteArray × ByteArray)) : List (ByteArray × ByteArray) := (matchB p q l).getD l
end Go.Proofs.Ytcidfmmeonhkhaa.Row
/- Contracts of the functions that split a text at its slashes, the program's (without the empty pieces, rune by rune) and the reference model's (all pieces, byte by byte). No conditions but that lengths fit. -/
namespace Go.Proofs.Ytcidfmmeonhkhaa.Row
open Go.ChangeShapes Go.WideShapes Go.ChangeAt Go.RowKit Go.Instr
set_option linter.unusedVariables false
set_option maxRecDepth 100000

/-- Where the reference model's loop stands: the pieces so far, and the rest. -/
def SpI (s : ByteArray) (k f : Nat) (L : List ByteArray) : Prop :=
  (k ≤ s.size → splitB s = L ++ (goS (seg s f k) (rest s k)).map mk) ∧ (k = s.size + 1 → splitB s = L)
theorem SpI.on {s : ByteArray} {k f : Nat} {L : List ByteArray} (h : SpI s k f L) (hf : f ≤ k) (hl : k < s.size) (hc : s[k]'hl ≠ 47) : SpI s (k + 1) f L := by
  have h1 := h.1 (by omega)
  rw [goS_byte s hf hl hc] at h1
  exact ⟨fun _ => h1, fun e => by omega⟩

/-! ### the program's way: rune by rune, over the text with a slash behind it -/
def SpN (s : ByteArray) (k f : Nat) (L : List ByteArray) : Prop :=
  (k ≤ s.size → partsB s = L ++ ((goS (seg s f k) (rest s k)).map mk).filter fullB) ∧ (k = s.size + 1 → partsB s = L)
theorem SpN.on {s : ByteArray} {k f : Nat} {L : List ByteArray} (h : SpN s k f L) (hf : f ≤ k) {m : Nat} (h0 : 1 ≤ m) (hm : k + m ≤ s.size) (hc : ∀ j (hj : j < m), s[k + j]'(by omega) ≠ 47) : SpN s (k + m) f L := by
  have h1 := h.1 (by omega)
  rw [goS_bytes s hf m hm hc] at h1
  exact ⟨fun _ => h1, fun e => by omega⟩

end Go.Proofs.Ytcidfmmeonhkhaa.Row
/- Contracts of ParseName, the program's and the reference model's. No conditions but that lengths fit. -/
namespace Go.Proofs.Ytcidfmmeonhkhaa.Row
open Go.ChangeShapes Go.WideShapes Go.ChangeAt Go.RowKit Go.Instr
set_option linter.unusedVariables false
set_option maxRecDepth 100000

end Go.Proofs.Ytcidfmmeonhkhaa.Row
/- Contracts of FormatPattern and ParsePattern, the program's and the model's. No conditions but that lengths fit. -/
namespace Go.Proofs.Ytcidfmmeonhkhaa.Row
open Go.ChangeShapes Go.WideShapes Go.ChangeAt Go.RowKit Go.Instr
set_option linter.unusedVariables false
set_option maxRecDepth 100000

def ppOk (s : ByteArray) : Bool := validPat (partsB s) && decide (fmtS (partsB s) = s)
def ppN (s : ByteArray) : List ByteArray := if ppOk s = true then partsB s else []
end Go.Proofs.Ytcidfmmeonhkhaa.Row
/- The reference model's chapter 10 (rules): ValidRule, ValidRules, RuleAllows, FirstAllowingRule, Allowed, FormatRule, EqualRules. No conditions but that lengths fit. -/
namespace Go.Proofs.Ytcidfmmeonhkhaa.Row
open Go.ChangeShapes Go.WideShapes Go.ChangeAt Go.RowKit Go.Instr
set_option linter.unusedVariables false
set_option maxRecDepth 100000

/-! ### mathematics -/
def hasP (l : List ByteArray) (s : ByteArray) : Bool := l.any fun x => decide (x = s)
/-- Every letter of the key's pattern stands in the data's. -/
def lettersIn (p q : List ByteArray) : Bool := q.all fun s => !letterP s || hasP p s
def validR (x : Rlt) : Bool := validPat x.1 && validPat x.2 && lettersIn x.1 x.2
def validRs (l : List Rlt) : Bool := l.all validR && decide (l.length ≤ 8)
def allowsR (x : Rlt) (n b : List ByteArray) : Bool := validR x && mOk x.1 n [] && mOk x.2 b (mOut x.1 n [])
def firstR (l : List Rlt) (n b : List ByteArray) : Int := if l.findIdx (fun x => allowsR x n b) < l.length then (l.findIdx (fun x => allowsR x n b) : Int) else -1
def fmtR (x : Rlt) : ByteArray := fmtS x.1 ++ { data := #[32, 60, 32] } ++ fmtS x.2
end Go.Proofs.Ytcidfmmeonhkhaa.Row
/- Searching a list for the first element of which something holds; what is asked of a closure that is handed to the library. For any kind. No conditions. -/
namespace Go.Proofs.Ytcidfmmeonhkhaa.Row
open Go.ChangeShapes Go.WideShapes Go.ChangeAt Go.RowKit Go.Instr
set_option linter.unusedVariables false
set_option maxRecDepth 100000

section
variable {α : Type} [Inhabited α] {p : α → Bool} {l : List α} {k : Nat}
/-- The place of the first element of which p is true; -1 if there is none. -/
def ixL (p : α → Bool) (l : List α) : Int := if l.findIdx p < l.length then (l.findIdx p : Int) else -1
def noL (p : α → Bool) (l : List α) (k : Nat) : Prop := ∀ j, j < k → p (nth l j) = false
theorem noL_zero (p : α → Bool) (l : List α) : noL p l 0 := fun j h => absurd h (by omega)
theorem noL_succ (h : noL p l k) (hc : p (nth l k) = false) : noL p l (k + 1) := fun j h1 => by
  by_cases e : j = k
  · subst e; exact hc
  · exact h j (by omega)
theorem ixL_at (hk : k < l.length) (h : noL p l k) (hc : p (nth l k) = true) : ixL p l = k := by
  have e : l.findIdx p = k := by
    rw [List.findIdx_eq hk]
    exact ⟨by rw [← nth_eq hk]; exact hc, fun j hj => by rw [← nth_eq (Nat.lt_trans hj hk)]; exact h j hj⟩
  unfold ixL; rw [e, if_pos hk]
theorem ixL_none (h : noL p l l.length) : ixL p l = -1 := by
  have e : l.findIdx p = l.length := by
    rw [List.findIdx_eq_length]
    intro x hx
    obtain ⟨j, hj, rfl⟩ := List.getElem_of_mem hx
    rw [← nth_eq hj]; exact h j hj
  unfold ixL; rw [e, if_neg (by omega)]
end
/-- What is asked of a closure that is handed to the library: it answers p, for each element that fits, and leaves what was there. -/
def ClosK {α M : Type} (P : Program) (k : Kd α M) (fid : FuncId) (cap : Array Value) (p : α → Bool) (ok : α → Prop) (w : World) : Prop :=
  ∀ (x : α) (V : Value) (W : World), Below w.heap.size w W → k.At W V x → ok x → Calls P fid (#[V] ++ cap) W fun e w' => e = .returned (.bool (p x)) ∧ Below W.heap.size W w'
theorem ClosK.on {α M : Type} {P : Program} {k : Kd α M} {fid : FuncId} {cap : Array Value} {p : α → Bool} {ok : α → Prop} {w w' : World} (h : ClosK P k fid cap p ok w) (hb : Below w.heap.size w w') : ClosK P k fid cap p ok w' := fun x V W hW => h x V W (hb.trans (hW.mono hb.size))
end Go.Proofs.Ytcidfmmeonhkhaa.Row
/- Chapter 11's answers as functions of lists, in the words of kinds; what fits. No conditions. -/
namespace Go.Proofs.Ytcidfmmeonhkhaa.Row
open Go.ChangeShapes Go.WideShapes Go.ChangeAt Go.RowKit Go.Instr
set_option linter.unusedVariables false
set_option maxRecDepth 100000

/-! ### sizes -/
theorem bulkT_K (T : List Kyt) : Ring.bulkT T = bulkK wtKy T := rfl
structure FitT (t : Tpt) : Prop where
  wt : wtTp t ≤ 1200000
  ok : inTp t
structure FitD (x : Dzt) : Prop where
  wt : wtDz x ≤ 1200000
  ok : inDz x
section
variable {t : Tpt} {x : Dzt}
theorem FitT.sum (h : FitT t) : bulkK wtKy t.1 + bulkK wtRl t.2.1 + bulkK wtNn t.2.2.1 + bulkK wtDz t.2.2.2 ≤ 1200000 := h.wt
theorem FitT.keys (h : FitT t) : Ring.bulkT t.1 ≤ 1200000 := by have := h.sum; rw [bulkT_K]; omega
theorem FitT.certLen (h : FitT t) : t.2.2.2.length ≤ 9000000 := by have := h.sum; have := bulkK_len wtDz t.2.2.2; omega
theorem FitT.certs (h : FitT t) : ∀ y ∈ t.2.2.2, FitD y := fun y hy => ⟨by have := h.sum; have := bulkK_mem (f := wtDz) hy; omega, h.ok.2.2.2.2 y hy⟩
theorem FitD.bulk (h : FitD x) : bulkD x ≤ 1200000 := h.wt
theorem FitD.wf (h : FitD x) : WfD x := ⟨h.ok.1.2, h.ok.2.1.2, h.ok.2.2.1.2, h.ok.2.2.2.1, h.ok.2.2.2.2⟩
theorem FitD.name (h : FitD x) : Row.bulk x.1 ≤ 1200000 := by have : Row.bulk x.1 + x.2.1.length + Row.bulk x.2.2.1 ≤ 1200000 := h.wt; omega
theorem FitD.bytes (h : FitD x) : x.2.1.length ≤ 1200000 := by have : Row.bulk x.1 + x.2.1.length + Row.bulk x.2.2.1 ≤ 1200000 := h.wt; omega
theorem FitD.key (h : FitD x) : Row.bulk x.2.2.1 ≤ 1200000 := by have : Row.bulk x.1 + x.2.1.length + Row.bulk x.2.2.1 ≤ 1200000 := h.wt; omega
end

/-! ### the answers -/
/-- The list has a key with this name. -/
def hasK (T : List Kyt) (m : List ByteArray) : Bool := decide (0 ≤ Ring.ixT (Ring.isN m) T)
def validT (t : Tpt) : Bool := Ring.validK t.1 && validRs t.2.1 && decide (t.2.2.1.length ≤ 8) && decide (t.2.2.2.length ≤ 8) && t.2.2.1.all (hasK t.1) && t.2.2.2.all validD
/-- The packet is a certificate of the name that serves. -/
def certP (T : List Kyt) (n : List ByteArray) (now : Int) (x : Dzt) : Bool := decide (x.1 = n) && decide (now ≤ x.2.2.2.1) && decide (x.2.1 = digK T n) && verD (Ring.lkN T x.2.2.1) x
def findC (t : Tpt) (n : List ByteArray) (now : Int) : Int := if Ring.lkN t.1 n = 0 then -1 else ixL (certP t.1 n now) t.2.2.2
/-- Signed by a key that may. -/
def sigT (t : Tpt) (x : Dzt) : Bool := verD (Ring.lkN t.1 x.2.2.1) x && decide (0 ≤ firstR t.2.1 x.1 x.2.2.1)
/-- The chain of keys, at most k of them. -/
def chainT (t : Tpt) (now : Int) : Nat → Dzt → Option (List Nnt)
  | 0, _ => none
  | k + 1, x => if sigT t x = true then (if anchorT t.2.2.1 x.2.2.1 = true then some [x.2.2.1] else if findC t x.2.2.1 now < 0 then none else (chainT t now k (nth t.2.2.2 (findC t x.2.2.1 now).toNat)).map (x.2.2.1 :: ·)) else none
def chT (t : Tpt) (x : Dzt) (now : Int) : List Nnt := (chainT t now 4 x).getD []
def chOk (t : Tpt) (x : Dzt) (now : Int) : Bool := (chainT t now 4 x).isSome
def trusted (t : Tpt) (x : Dzt) (now : Int) : Bool := chOk t x now && validD x
end Go.Proofs.Ytcidfmmeonhkhaa.Row
