/- Contracts and mathematics, joined: KRing, TrustB, TrustC, FindK, TrustMath, TrustF0, TrustF, TrustP, TrustI. No conditions but those that each states. -/
import Derived.Test.YtcidfmmeonhkhaaGreatDoorB16
import Derived.Test.YtcidfmmeonhkhaaGreatDoorB15
import Derived.Test.YtcidfmmeonhkhaaGreatDoorB10
import Derived.Test.YtcidfmmeonhkhaaGreatDoorB5
import Derived.Test.YtcidfmmeonhkhaaGreatDoorB11
import Derived.Test.YtcidfmmeonhkhaaGreatDoorB2
import Derived.Test.YtcidfmmeonhkhaaGreatDoorB8
import Derived.WalkKit
import Derived.Deep.RegionHeld3
import Derived.Test.YtcidfmmeonhkhaaGreatDoorB9
/- Lists of keys, and a key, in the words of the exact laws; chapter 9's functions, the model's and the program's, in these words. No conditions but that lengths fit. -/
namespace Go.Proofs.YtcidfmmeonhkhaaGreatDoor.Row.Ring
open Go.ChangeShapes Go.WideShapes Go.ChangeAt Go.RowKit Go.Instr
set_option linter.unusedVariables false
set_option maxRecDepth 100000

abbrev Kt := List (List ByteArray × Int)
def kK.At (w : World) (V : Value) (T : Kt) : Prop := TabHolds w V T
def kK.In (B E : Nat) (w : World) (V : Value) (T : Kt) : Prop := TabIn B E w V T
section
variable {B E B' E' : Nat} {w w' : World} {V : Value} {T : Kt}
theorem kK.At.on (h : kK.At w V T) (hb : Below w.heap.size w w') : kK.At w' V T := TabHolds.on h hb
theorem kK.In.on (h : kK.In B E w V T) (hb : Below w.heap.size w w') : kK.In B E w' V T := TabIn.on h hb
theorem kK.In.at (h : kK.In B E w V T) : kK.At w V T := TabIn.holds h
theorem kK_shapeA (h : kK.At w V T) : ∃ x n c, V = .slice x n c ∧ kK.At w (.slice x n c) T := by
  obtain ⟨x, n, c, rfl, -, -, h⟩ := TabHolds.shapeN h
  exact ⟨x, n, c, rfl, h⟩
end
/-! ### a key -/
abbrev K1 := List ByteArray × Int
def k1.At (w : World) (V : Value) (x : K1) : Prop := ∃ v, V = .agg #[v, .int .i64 x.2] ∧ Holds Value.string w v x.1
def k1.In (B E : Nat) (w : World) (V : Value) (x : K1) : Prop := ∃ v, V = .agg #[v, .int .i64 x.2] ∧ Own 9 Value.string B w v x.1 ∧ ∀ g, v.ownBlock = some g → g < E
section
variable {B E B' E' : Nat} {w w' : World} {V : Value} {x : K1}
theorem k1.At.on (h : k1.At w V x) (hb : Below w.heap.size w w') : k1.At w' V x := by
  obtain ⟨v, rfl, h⟩ := h
  exact ⟨v, rfl, h.on hb⟩
theorem k1.In.on (h : k1.In B E w V x) (hb : Below w.heap.size w w') : k1.In B E w' V x := by
  obtain ⟨v, rfl, h, h1⟩ := h
  exact ⟨v, rfl, h.on hb, h1⟩
theorem k1.In.at (h : k1.In B E w V x) : k1.At w V x := by
  obtain ⟨v, rfl, h, h1⟩ := h
  exact ⟨v, rfl, h.holds⟩
end
def WfK1 (x : K1) : Prop := (∀ y ∈ x.1, y.size ≤ maxLen) ∧ (Lit.int .i64 x.2).wf = true
def mk1 (k : Int) (x : K1) : K1 := (marks markT k x.1.length, x.2)
/-! ### the functions -/
theorem len_bulkT {T : Kt} (h : bulkT T ≤ 1200000) : T.length ≤ 3000000 := by have := bulkT_len T; omega
theorem sm_bulkT {T : Kt} (h : bulkT T ≤ 1200000) : smT T := smT_of (by omega)
theorem specSecretOfK (V U : Value) (T : Kt) (m : List ByteArray) (w : World) (h : kK.At w V T) (g : kN.At w U m) (hl : bulkT T ≤ 1200000) (hm : bulk m ≤ 1200000) :
    Calls Tryz.prog 69 #[V, U] w fun e w' => e = .returned (.int .i64 (lkN T m)) ∧ Below w.heap.size w w' := by
  obtain ⟨v, rfl, g9⟩ := kN_at g
  exact specSecretOf V v T m w h g9 (Nat.le_trans (len_bulkT hl) (by decide)) (sm_bulkT hl) (by omega)
theorem specSignWithKeyK (V U1 U2 U3 : Value) (T : Kt) (lk ln : List ByteArray) (lb : List Int) (u : Int) (w : World) (h : kK.At w V T) (g1 : kN.At w U1 lk) (g2 : kN.At w U2 ln) (g3 : kB.At w U3 lb) (hB : Sl.Byt lb) (hl : bulkT T ≤ 1200000) (h1 : bulk lk ≤ 1200000) (h2 : bulk ln ≤ 1200000) (h3 : lb.length ≤ 1200000) :
    Calls Tryz.prog 61 #[V, U1, U2, U3, .int .i64 u] w fun e w' => ∃ X, e = .returned (.tuple #[X, .bool (sgOk T lk ln lb u)]) ∧ kD.In w.heap.size w'.heap.size w' X (sgK T lk ln lb u) ∧ Below w.heap.size w w' := by
  obtain ⟨v1, rfl, g8⟩ := kN_at g1
  obtain ⟨v2, rfl, g9⟩ := kN_at g2
  exact giveDB (specSignWithKey V v1 v2 U3 T lk ln lb u w h g8 g9 (kS_at g3) hB (Nat.le_trans (len_bulkT hl) (by decide)) (sm_bulkT hl) h1 h2 h3)
theorem implSecretOfK (V U : Value) (T : Kt) (m : List ByteArray) (w : World) (h : kK.At w V T) (g : kN.At w U m) (hl : bulkT T ≤ 1200000) (hm : bulk m ≤ 1200000) :
    Calls Tryz.prog 82 #[V, U] w fun e w' => e = .returned (.int .i64 (lkN T m)) ∧ Below w.heap.size w w' := by
  obtain ⟨v, rfl, g9⟩ := kN_at g
  exact implSecretOf V v T m w h g9 (Nat.le_trans (len_bulkT hl) (by decide)) (sm_bulkT hl) (by omega)
theorem implVerifySignatureK (V U : Value) (T : Kt) (x : Dt) (w : World) (h : kK.At w V T) (g : kD.At w U x) (gn : WfD x) (hl : bulkT T ≤ 1200000) (hx : bulkD x ≤ 1200000) :
    Calls Tryz.prog 33 #[V, U] w fun e w' => e = .returned (.bool (verD (lkN T x.2.2.1) x)) ∧ Below w.heap.size w w' := implVerifySignature V U T x w h g gn (Nat.le_trans (len_bulkT hl) (by decide)) (sm_bulkT hl) hx
end Go.Proofs.YtcidfmmeonhkhaaGreatDoor.Row.Ring
/- Lists of keys and data packets of kstruct.py's kinds, as chapters 8 and 9 read them. No conditions. -/
namespace Go.Proofs.YtcidfmmeonhkhaaGreatDoor.Row
open Go.ChangeShapes Go.WideShapes Go.ChangeAt Go.RowKit Go.Instr
set_option linter.unusedVariables false
set_option maxRecDepth 100000

/-! ### what is read as a kind is read as the elder words say -/
theorem kD_ofK {w : World} {V : Value} {x : Dzt} (h : kDz.At w V x) : kD.At w V x := by
  obtain ⟨x0, n0, c0, x1, n1, c1, x2, n2, c2, rfl, g0, g1, g2⟩ := kDz_at h
  obtain ⟨v, e, h0⟩ := kN_at g0
  cases e
  obtain ⟨v, e, h1⟩ := kB_at g1
  cases e
  obtain ⟨v, e, h2⟩ := kN_at g2
  cases e
  exact kD_of (x := x) ⟨h0, h1, h2⟩
def entOf (m : Kym) : Ring.Ent := ⟨m.1.ad, m.1.n, m.1.cap, m.1.els, m.2⟩
theorem kK_ofK {w : World} {V : Value} {l : List Kyt} (h : kLKy.At w V l) : Ring.kK.At w V l := by
  obtain ⟨ad, n, cap, L, rfl, hn, rfl, hh, hel⟩ := kLKy_at h
  have hc : ∀ m : Kym, Ring.encE (entOf m) = kKy.cells m := fun m => rfl
  have hf : ∀ L : List Kym, flat Ring.encE (L.map entOf) = flat kKy.cells L := fun L => by
    unfold flat
    rw [List.flatMap_map]
    rfl
  refine ⟨L.map entOf, ?_, ?_, fun x hx => ?_⟩
  · unfold Ring.strip
    rw [List.map_map]
    refine List.map_congr_left fun m hm => ?_
    show (m.1.els, m.2) = (kN.strip m.1, m.2)
    rw [kN_strip]
  · obtain ⟨a, b, hv, hb, h9⟩ := hh
    refine ⟨a, b, by rw [List.length_map]; exact hv, by rw [List.length_map]; exact hb, ?_⟩
    rcases h9 with h9 | ⟨g, off, e, h9⟩
    · exact Or.inl (by rw [h9]; rfl)
    · exact Or.inr ⟨g, off, e, by rw [hf, List.length_map]; exact h9⟩
  · obtain ⟨m, hm, rfl⟩ := List.mem_map.1 hx
    have h1 := (hel m hm).1
    obtain ⟨v, e, h2⟩ := kN_at (Kd.at_of (k := kN) h1)
    rw [kN_strip] at h2
    have e2 : v = m.1.v := by
      have e3 : (Value.agg #[m.1.v]) = .agg #[v] := e
      injection e3 with e3
      exact (List.cons.inj (congrArg Array.toList e3)).1.symm
    rw [e2] at h2
    exact h2

end Go.Proofs.YtcidfmmeonhkhaaGreatDoor.Row
/- The model's KeyDigest. No conditions but that lengths fit. -/
namespace Go.Proofs.YtcidfmmeonhkhaaGreatDoor.Row
open Go.ChangeShapes Go.WideShapes Go.ChangeAt Go.RowKit Go.Instr
set_option linter.unusedVariables false
set_option maxRecDepth 100000

/-- What a key's certificate holds: nothing where there is no such key. -/
def digK (T : Ring.Kt) (m : List ByteArray) : List Int := if Ring.lkN T m = 0 then [] else Var.var (Seal.digest [Ring.lkN T m])
theorem digK_len (T : Ring.Kt) (m : List ByteArray) : (digK T m).length ≤ 6 := by
  unfold digK
  split
  · simp
  · exact Var.var_len _

set_option maxHeartbeats 4000000 in
theorem specKeyDigest (V U : Value) (T : Ring.Kt) (m : List ByteArray) (w : World) (z : List Int) (hz : digK T m = z) (h : Ring.kK.At w V T) (g : kN.At w U m) (hl : Ring.bulkT T ≤ 1200000) (hm : bulk m ≤ 1200000) :
    Calls Tryz.prog 30 #[V, U] w (Sl.GivesB w z) := by
  obtain ⟨x, n, c, rfl, h⟩ := Ring.kK_shapeA h
  obtain ⟨xn, nn, cn, rfl, g⟩ := kN_shapeA g
  have hal := (Below.refl w.heap.size w).alloc (Nat.le_refl _) (.cells #[.slice xn nn cn] 32)
  have HB := Lib.hid hal
  have HC := Lib.hid (Ret.Box.new w (.slice xn nn cn) 32)
  have HS := Lib.hid (Ring.specSecretOfK _ _ T m _ (h.on hal) (g.on hal) hl hm)
  have HZ := Lib.hid hz
  clear h g hal hz hl hm
  go_enter Tryz.func30, Tryz.ntmps30
  have c0 := HC.out.cell
  go_wp2_with fail
  refine HS.out.mono ?_
  rintro e w1 ⟨rfl, hb⟩
  replace HB := Lib.hid (HB.out.trans (hb.mono HB.out.size))
  clear hb c0 HS HC
  obtain ⟨s, hs⟩ : ∃ s, Ring.lkN T m = s := ⟨_, rfl⟩
  rw [hs]
  have HK := Lib.hid hs
  clear hs
  by_cases h0 : s = 0
  · subst h0
    have HE := Lib.hid (show z = [] by rw [← HZ.out]; unfold digK; rw [if_pos HK.out])
    have HO := Lib.hid (Sl.own_empty .u8 5 w1)
    go_wp2_with fail
    go_ret
    exact ⟨_, rfl, by rw [HE.out]; exact Sl.Own.mono HO.out HB.out.size, HB.out.alloc HB.out.size _⟩
  · have HE := Lib.hid (show z = [] ++ Var.var (Seal.digest [s]) by rw [← HZ.out]; unfold digK; rw [HK.out, if_neg h0]; rfl)
    have hb1 := (Below.refl w1.heap.size w1).alloc (Nat.le_refl _) (.cells #[] 5)
    have hb2 := (Below.refl (w1.alloc (.cells #[] 5)).heap.size (w1.alloc (.cells #[] 5))).alloc (Nat.le_refl _) (.cells #[.int .i64 s] 3)
    have HO := Lib.hid ((Sl.own_empty .u8 5 w1).holds.on hb2)
    have hi := Sl.holds_one .i64 3 (w1.alloc (.cells #[] 5)) s
    rw [World.size_alloc] at hi
    have HI := Lib.hid hi
    clear hi
    have HBB := Lib.hid ((HB.out.trans (hb1.mono HB.out.size)).trans (hb2.mono (Nat.le_trans HB.out.size hb1.size)))
    clear hb1 hb2
    go_wp2_with fail
    refine (Sl.specDigest _ [s] _ HI.out (by simp)).mono ?_
    rintro e w2 ⟨rfl, rfl⟩
    go_wp2_with fail
    refine (Sl.specAppendVarint _ [] _ _ HO.out (by decide)).mono ?_
    rintro e w3 ⟨v, rfl, ho, hb⟩
    have HV := Lib.hid (Sl.Own.mono ho HBB.out.size); have HB3 := Lib.hid (HBB.out.trans (hb.mono HBB.out.size))
    clear ho hb
    go_wp2_with fail
    go_ret
    exact ⟨_, rfl, by rw [HE.out]; exact HV.out, HB3.out⟩
end Go.Proofs.YtcidfmmeonhkhaaGreatDoor.Row
/- Searching a list for the first element of which something holds; what is asked of a closure that is handed to the library. For any kind. No conditions. -/
namespace Go.Proofs.YtcidfmmeonhkhaaGreatDoor.Row
open Go.ChangeShapes Go.WideShapes Go.ChangeAt Go.RowKit Go.Instr
set_option linter.unusedVariables false
set_option maxRecDepth 100000

section
variable {α : Type} [Inhabited α] {p : α → Bool} {l : List α} {k : Nat}
/-- The place of the first element of which p is true; -1 if there is none. -/
def ixL (p : α → Bool) (l : List α) : Int := if l.findIdx p < l.length then (l.findIdx p : Int) else -1
def noL (p : α → Bool) (l : List α) (k : Nat) : Prop := ∀ j, j < k → p (nth l j) = false
theorem noL_zero (p : α → Bool) (l : List α) : noL p l 0 := fun j h => absurd h (by omega)
theorem noL_succ (h : noL p l k) (hc : p (nth l k) = false) : noL p l (k + 1) := fun j h1 => by
  by_cases e : j = k
  · subst e; exact hc
  · exact h j (by omega)
theorem ixL_at (hk : k < l.length) (h : noL p l k) (hc : p (nth l k) = true) : ixL p l = k := by
  have e : l.findIdx p = k := by
    rw [List.findIdx_eq hk]
    exact ⟨by rw [← nth_eq hk]; exact hc, fun j hj => by rw [← nth_eq (Nat.lt_trans hj hk)]; exact h j hj⟩
  unfold ixL; rw [e, if_pos hk]
theorem ixL_none (h : noL p l l.length) : ixL p l = -1 := by
  have e : l.findIdx p = l.length := by
    rw [List.findIdx_eq_length]
    intro x hx
    obtain ⟨j, hj, rfl⟩ := List.getElem_of_mem hx
    rw [← nth_eq hj]; exact h j hj
  unfold ixL; rw [e, if_neg (by omega)]
theorem ixL_cases (p : α → Bool) (l : List α) : (ixL p l = -1 ∧ noL p l l.length) ∨ ∃ k, k < l.length ∧ ixL p l = (k : Int) ∧ p (nth l k) = true ∧ noL p l k := by
  by_cases h : l.findIdx p < l.length
  · refine Or.inr ⟨l.findIdx p, h, by unfold ixL; rw [if_pos h], ?_, ?_⟩
    · rw [nth_eq h]; exact List.findIdx_getElem
    · intro j hj
      rw [nth_eq (Nat.lt_trans hj h)]
      have := List.not_of_lt_findIdx hj
      simpa using this
  · have e : l.findIdx p = l.length := Nat.le_antisymm List.findIdx_le_length (by omega)
    refine Or.inl ⟨by unfold ixL; rw [if_neg h], fun j hj => ?_⟩
    rw [nth_eq hj]
    have := List.not_of_lt_findIdx (p := p) (xs := l) (i := j) (by omega)
    simpa using this
theorem any_of_noL (h : noL p l l.length) : l.any p = false := by
  rw [List.any_eq_false]
  intro x hx
  obtain ⟨j, hj, rfl⟩ := List.getElem_of_mem hx
  rw [← nth_eq hj, h j hj]
  simp
theorem any_of_at (hk : k < l.length) (hc : p (nth l k) = true) : l.any p = true := List.any_eq_true.2 ⟨_, nth_mem hk, hc⟩
theorem any_ixL (p : α → Bool) (l : List α) : l.any p = decide (0 ≤ ixL p l) := by
  rcases ixL_cases p l with ⟨e, h⟩ | ⟨k, hk, e, hc, -⟩
  · rw [e, any_of_noL h]; rfl
  · rw [e, any_of_at hk hc]; simp
theorem ixL_lt (p : α → Bool) (l : List α) : -1 ≤ ixL p l ∧ ixL p l < l.length ∨ ixL p l = -1 := by
  rcases ixL_cases p l with ⟨e, h⟩ | ⟨k, hk, e, hc, -⟩
  · exact Or.inr e
  · exact Or.inl ⟨by omega, by omega⟩
end
/-- What is asked of a closure that is handed to the library: it answers p, for each element that fits, and leaves what was there. -/
def ClosK {α M : Type} (P : Program) (k : Kd α M) (fid : FuncId) (cap : Array Value) (p : α → Bool) (ok : α → Prop) (w : World) : Prop :=
  ∀ (x : α) (V : Value) (W : World), Below w.heap.size w W → k.At W V x → ok x → Calls P fid (#[V] ++ cap) W fun e w' => e = .returned (.bool (p x)) ∧ Below W.heap.size W w'
theorem ClosK.on {α M : Type} {P : Program} {k : Kd α M} {fid : FuncId} {cap : Array Value} {p : α → Bool} {ok : α → Prop} {w w' : World} (h : ClosK P k fid cap p ok w) (hb : Below w.heap.size w w') : ClosK P k fid cap p ok w' := fun x V W hW => h x V W (hb.trans (hW.mono hb.size))
end Go.Proofs.YtcidfmmeonhkhaaGreatDoor.Row
/- Chapter 11's answers as functions of lists, in the words of kinds; what fits. No conditions. -/
namespace Go.Proofs.YtcidfmmeonhkhaaGreatDoor.Row
open Go.ChangeShapes Go.WideShapes Go.ChangeAt Go.RowKit Go.Instr
set_option linter.unusedVariables false
set_option maxRecDepth 100000

/-! ### sizes -/
theorem bulkT_K (T : List Kyt) : Ring.bulkT T = bulkK wtKy T := rfl
structure FitT (t : Tpt) : Prop where
  wt : wtTp t ≤ 1200000
  ok : inTp t
structure FitD (x : Dzt) : Prop where
  wt : wtDz x ≤ 1200000
  ok : inDz x
section
variable {t : Tpt} {x : Dzt}
theorem FitT.sum (h : FitT t) : bulkK wtKy t.1 + bulkK wtRl t.2.1 + bulkK wtNn t.2.2.1 + bulkK wtDz t.2.2.2 ≤ 1200000 := h.wt
theorem FitT.keys (h : FitT t) : Ring.bulkT t.1 ≤ 1200000 := by have := h.sum; rw [bulkT_K]; omega
theorem FitT.ruleLen (h : FitT t) : t.2.1.length ≤ 9000000 := by have := h.sum; have := bulkK_len wtRl t.2.1; omega
theorem FitT.ruleWt (h : FitT t) : ∀ y ∈ t.2.1, wtRl y ≤ 9000000 := fun y hy => by have := h.sum; have := bulkK_mem (f := wtRl) hy; omega
theorem FitT.nameLen (h : FitT t) : t.2.2.1.length ≤ 9000000 := by have := h.sum; have := bulkK_len wtNn t.2.2.1; omega
theorem FitT.nameWt (h : FitT t) : ∀ y ∈ t.2.2.1, bulk y ≤ 1200000 := fun y hy => by have := h.sum; have := bulkK_mem (f := wtNn) hy; have : wtNn y = bulk y := rfl; omega
theorem FitT.nameWt9 (h : FitT t) : ∀ y ∈ t.2.2.1, bulk y ≤ 9000000 := fun y hy => Nat.le_trans (h.nameWt y hy) (by decide)
theorem FitT.certLen (h : FitT t) : t.2.2.2.length ≤ 9000000 := by have := h.sum; have := bulkK_len wtDz t.2.2.2; omega
theorem FitT.certs (h : FitT t) : ∀ y ∈ t.2.2.2, FitD y := fun y hy => ⟨by have := h.sum; have := bulkK_mem (f := wtDz) hy; omega, h.ok.2.2.2.2 y hy⟩
theorem FitD.bulk (h : FitD x) : bulkD x ≤ 1200000 := h.wt
theorem FitD.bulk9 (h : FitD x) : bulkD x ≤ 9000000 := Nat.le_trans h.wt (by decide)
theorem FitD.wf (h : FitD x) : WfD x := ⟨h.ok.1.2, h.ok.2.1.2, h.ok.2.2.1.2, h.ok.2.2.2.1, h.ok.2.2.2.2⟩
theorem FitD.name (h : FitD x) : Row.bulk x.1 ≤ 1200000 := by have : Row.bulk x.1 + x.2.1.length + Row.bulk x.2.2.1 ≤ 1200000 := h.wt; omega
theorem FitD.bytes (h : FitD x) : x.2.1.length ≤ 1200000 := by have : Row.bulk x.1 + x.2.1.length + Row.bulk x.2.2.1 ≤ 1200000 := h.wt; omega
theorem FitD.key (h : FitD x) : Row.bulk x.2.2.1 ≤ 1200000 := by have : Row.bulk x.1 + x.2.1.length + Row.bulk x.2.2.1 ≤ 1200000 := h.wt; omega
end

/-! ### the answers -/
/-- The list has a key with this name. -/
def hasK (T : List Kyt) (m : List ByteArray) : Bool := decide (0 ≤ Ring.ixT (Ring.isN m) T)
def validT (t : Tpt) : Bool := Ring.validK t.1 && validRs t.2.1 && decide (t.2.2.1.length ≤ 8) && decide (t.2.2.2.length ≤ 8) && t.2.2.1.all (hasK t.1) && t.2.2.2.all validD
/-- The packet is a certificate of the name that serves. -/
def certP (T : List Kyt) (n : List ByteArray) (now : Int) (x : Dzt) : Bool := decide (x.1 = n) && decide (now ≤ x.2.2.2.1) && decide (x.2.1 = digK T n) && verD (Ring.lkN T x.2.2.1) x
def findC (t : Tpt) (n : List ByteArray) (now : Int) : Int := if Ring.lkN t.1 n = 0 then -1 else ixL (certP t.1 n now) t.2.2.2
/-- Signed by a key that may. -/
def sigT (t : Tpt) (x : Dzt) : Bool := verD (Ring.lkN t.1 x.2.2.1) x && decide (0 ≤ firstR t.2.1 x.1 x.2.2.1)
/-- The chain of keys, at most k of them. -/
def chainT (t : Tpt) (now : Int) : Nat → Dzt → Option (List Nnt)
  | 0, _ => none
  | k + 1, x => if sigT t x = true then (if anchorT t.2.2.1 x.2.2.1 = true then some [x.2.2.1] else if findC t x.2.2.1 now < 0 then none else (chainT t now k (nth t.2.2.2 (findC t x.2.2.1 now).toNat)).map (x.2.2.1 :: ·)) else none
def chT (t : Tpt) (x : Dzt) (now : Int) : List Nnt := (chainT t now 4 x).getD []
def chOk (t : Tpt) (x : Dzt) (now : Int) : Bool := (chainT t now 4 x).isSome
def trusted (t : Tpt) (x : Dzt) (now : Int) : Bool := chOk t x now && validD x
theorem findC_lt (t : Tpt) (n : List ByteArray) (now : Int) : findC t n now < 0 ∨ (findC t n now).toNat < t.2.2.2.length := by
  unfold findC
  split
  · left; decide
  · rcases ixL_lt (certP t.1 n now) t.2.2.2 with h | h <;> omega
end Go.Proofs.YtcidfmmeonhkhaaGreatDoor.Row
/- The model's FindCertificate. No conditions but that lengths fit. -/
namespace Go.Proofs.YtcidfmmeonhkhaaGreatDoor.Row
open Go.ChangeShapes Go.WideShapes Go.ChangeAt Go.RowKit Go.Instr
set_option linter.unusedVariables false
set_option maxRecDepth 100000

theorem digK_byt (T : Ring.Kt) (m : List ByteArray) : Sl.Byt (digK T m) := by
  unfold digK
  split
  · exact fun x hx => (by cases hx)
  · intro x hx
    unfold Var.var at hx
    split at hx
    · exact Var.enc_byte _ x hx
    · cases hx
end Go.Proofs.YtcidfmmeonhkhaaGreatDoor.Row
/- The model's FindCertificate. No conditions but that lengths fit. -/
namespace Go.Proofs.YtcidfmmeonhkhaaGreatDoor.Row
open Go.ChangeShapes Go.WideShapes Go.ChangeAt Go.RowKit Go.Instr
set_option linter.unusedVariables false
set_option maxRecDepth 100000

theorem kDz_parts {w : World} {xa xb xc : Option Addr} {na ca nb cb nc cc : Nat} {f s : Int} {x : Dt} (h : kD.At w (.agg #[.slice xa na ca, .slice xb nb cb, .slice xc nc cc, .int .i64 f, .int .i64 s]) x) : kN.At w (.agg #[.slice xa na ca]) x.1 ∧ Sl.Holds .u8 w (.slice xb nb cb) x.2.1 ∧ kN.At w (.agg #[.slice xc nc cc]) x.2.2.1 := by
  obtain ⟨⟨h0, h1, h2⟩, -, -⟩ := Ring.kD_cells h
  exact ⟨kN_of h0, h1, kN_of h2⟩
end Go.Proofs.YtcidfmmeonhkhaaGreatDoor.Row
/- The program's chapter 11, its first part: IsAnchor, KeyDigest, ValidTrust. No conditions but that lengths fit. -/
namespace Go.Proofs.YtcidfmmeonhkhaaGreatDoor.Row
open Go.ChangeShapes Go.WideShapes Go.ChangeAt Go.RowKit Go.Instr
set_option linter.unusedVariables false
set_option maxRecDepth 100000

theorem iEqN {w : World} {V U : Value} {l m : List ByteArray} (z : Bool) (hz : decide (l = m) = z) (h : kN.At w V l) (g : kN.At w U m) (hl : bulk l ≤ 9000000) (hm : bulk m ≤ 9000000) :
    Calls Tryz.prog 66 #[V, U] w fun e w' => e = .returned (.bool z) ∧ Below w.heap.size w w' := by
  obtain ⟨v, rfl, h9⟩ := kN_at h
  obtain ⟨u, rfl, g9⟩ := kN_at g
  exact hz ▸ implEqualNames v u l m w h9 g9 (by have := bulk_len l; omega) (by have := bulk_len m; omega)

/-! ### IsAnchor -/
set_option maxHeartbeats 1000000 in
theorem anchorClos (g : Nat) (V : Value) (a m : List ByteArray) (xn : Option Addr) (nn cn : Nat) (w : World) (z : Bool) (hz : decide (a = m) = z) (hx : Ret.Blk w g #[.slice xn nn cn] 32) (ha : kN.At w V a) (hm : kN.At w (.agg #[.slice xn nn cn]) m) (hl : bulk a ≤ 9000000) (hl' : bulk m ≤ 9000000) :
    Calls Tryz.prog 81 #[V, .pointer (some ⟨g, 0, none⟩)] w fun e w' => e = .returned (.bool z) ∧ Below w.heap.size w w' := by
  obtain ⟨xa, na, ca, rfl, ha⟩ := kN_shapeA ha
  have hal := (Below.refl w.heap.size w).alloc (Nat.le_refl _) (.cells #[.slice xa na ca] 32)
  have HB := Lib.hid hal; have HX := Lib.hid (hx.on hal); have HA := Lib.hid (ha.on hal); have HM := Lib.hid (hm.on hal); have HZ := Lib.hid hz
  have HY := Lib.hid (Ret.Blk.new w #[.slice xa na ca] 32)
  clear hal hx ha hm hz
  have q0 : (w.alloc (.cells #[.slice xa na ca] 32)).cell? ⟨g, 0, none⟩ = some (.slice xn nn cn) := HX.out.cell 0
  have q1 : (w.alloc (.cells #[.slice xa na ca] 32)).cell? ⟨w.heap.size, 0, none⟩ = some (.slice xa na ca) := HY.out.cell 0
  go_enter Tryz.func81, Tryz.ntmps81
  go_wp2_with fail
  refine (iEqN z HZ.out HA.out HM.out hl hl').mono ?_
  rintro e w1 ⟨rfl, hb⟩
  replace HB := Lib.hid (HB.out.trans (hb.mono HB.out.size))
  clear hb
  go_wp2_with fail
  go_ret
  exact ⟨rfl, HB.out⟩

set_option maxHeartbeats 2000000 in
theorem indexAnc (b0 : Addr) (p : Nnt → Bool) (ok : Nnt → Prop) (v : Value) (l : List Nnt) (w : World) (z : Int) (hz : ixL p l = z) (h : kLNn.At w v l) (hl : l.length ≤ 9000000) (hp : ∀ x ∈ l, ok x) (hc : ClosK Tryz.prog kNn 81 #[.pointer (some b0)] p ok w) :
    Calls Tryz.prog 148 #[v, .func (.func 81) #[] #[.pointer (some b0)]] w fun e w' => e = .returned (.int .i64 z) ∧ Below w.heap.size w w' := by
  obtain ⟨x, n, cx, L, rfl, hn, ht, hh, hel⟩ := kLNn_at h
  have hlen : l.length = n := by rw [← ht, List.length_map]; exact hn.symm
  rw [hlen] at hl
  have hcap : n ≤ cx := by obtain ⟨x', n', cap', hv, hn', hc', -⟩ := hh.shapeN; cases hv; exact hc'
  have HN := Lib.hid hn; have HT := Lib.hid ht; have HH := Lib.hid hh; have HEL := Lib.hid hel; have HLEN := Lib.hid hlen; have HP := Lib.hid hp; have HC := Lib.hid hc; have HZ := Lib.hid hz
  clear hn h hh hc hp ht hel hlen hz
  go_enter Tryz.func148, Tryz.ntmps148
  go_wp2
  go_loopw [8] (fun iv wr => ∃ i : Nat, i ≤ n ∧ iv = .int .i64 i ∧ Hid (noL p l i) ∧ Hid (Below w.heap.size w wr)) (fun iv _ => n - (intOf iv).toNat)
  case atStart => exact ⟨0, Nat.zero_le _, rfl, Lib.hid (noL_zero _ _), Lib.hid (Below.refl _ _)⟩
  case round =>
    obtain ⟨k, hk, rfl, ha, hb⟩ := hrel
    by_cases hlt : k < n
    · have hlen := HN.out
      obtain ⟨b, off, y0, m0, d0, rfl, -, hc0, hA⟩ := kLNn_elem (HH.out.on hb.out) (fun y hy => kNn.holds_on (HEL.out y hy) hb.out) (j := k) (by omega)
      have hpt : nth l k = kNn.strip (nth L k) := by rw [← HT.out, nth_map _ (by omega)]
      have hps := HP.out (nth l k) (nth_mem (by have := HLEN.out; omega))
      rw [hpt] at hps
      obtain ⟨q, hq⟩ : ∃ q, p (kNn.strip (nth L k)) = q := ⟨_, rfl⟩
      have HCL := HC.out _ _ wr hb.out hA hps
      rw [hq] at HCL
      rw [← hpt] at hq
      replace HCL := Lib.hid HCL
      have HQ := Lib.hid hq
      clear hlen hpt hps hA hq
      go_wp2_with fail
      refine HCL.out.mono ?_
      rintro e w2 ⟨rfl, hb2⟩
      have HB2 := Lib.hid (hb.out.trans (hb2.mono hb.out.size))
      clear hb2 hc0 HCL
      cases q with
      | true =>
        have HV := Lib.hid (show z = (k : Int) from HZ.out.symm.trans (ixL_at (by have := HLEN.out; omega) ha.out HQ.out))
        go_wp2
        go_ret
        exact ⟨ret_int HV.out.symm, HB2.out⟩
      | false =>
        have HA := Lib.hid (noL_succ ha.out HQ.out)
        go_wp2
        go_roundw
        case rel => exact ⟨k + 1, by omega, by go_num, HA, HB2⟩
        case measure => simp [intOf]; omega
    · obtain rfl : k = n := by omega
      have HV := Lib.hid (show z = -1 from HZ.out.symm.trans (ixL_none (by rw [HLEN.out]; exact ha.out)))
      clear hlt
      go_wp2
      go_ret
      exact ⟨ret_int HV.out.symm, hb.out⟩

set_option maxHeartbeats 2000000 in
theorem containsAnc (b0 : Addr) (p : Nnt → Bool) (ok : Nnt → Prop) (v : Value) (l : List Nnt) (w : World) (z : Bool) (hz : l.any p = z) (h : kLNn.At w v l) (hl : l.length ≤ 9000000) (hp : ∀ x ∈ l, ok x) (hc : ClosK Tryz.prog kNn 81 #[.pointer (some b0)] p ok w) :
    Calls Tryz.prog 80 #[v, .func (.func 81) #[] #[.pointer (some b0)]] w fun e w' => e = .returned (.bool z) ∧ Below w.heap.size w w' := by
  obtain ⟨x, n, cx, rfl, h⟩ := kLNn_shapeA h
  obtain ⟨i, hi⟩ : ∃ i, ixL p l = i := ⟨_, rfl⟩
  have hr : -1 ≤ i := by rw [← hi]; rcases ixL_lt p l with h5 | h5 <;> omega
  rw [any_ixL, hi] at hz
  have HI := Lib.hid hi; have HH := Lib.hid h; have HP := Lib.hid hp; have HC := Lib.hid hc; have HZ := Lib.hid hz
  clear hi h hp hc hz
  go_enter Tryz.func80, Tryz.ntmps80
  go_wp2_with fail
  refine (indexAnc b0 p ok _ l _ i HI.out HH.out hl HP.out HC.out).mono ?_
  rintro e w1 ⟨rfl, hb⟩
  have HB := Lib.hid hb
  clear hb
  go_wp2
  go_ret
  exact ⟨ret_bool (by rw [← HZ.out]), HB.out⟩

set_option maxHeartbeats 2000000 in
theorem implIsAnchor (V U : Value) (t : Tpt) (m : List ByteArray) (w : World) (z : Bool) (hz : anchorT t.2.2.1 m = z) (h : kTp.At w V t) (g : kN.At w U m) (hl : t.2.2.1.length ≤ 9000000) (hp : ∀ a ∈ t.2.2.1, bulk a ≤ 9000000) (hm : bulk m ≤ 9000000) :
    Calls Tryz.prog 25 #[V, U] w fun e w' => e = .returned (.bool z) ∧ Below w.heap.size w w' := by
  obtain ⟨x0, n0, c0, x1, n1, c1, x2, n2, c2, x3, n3, c3, rfl, g0, g1, g2, g3⟩ := kTp_at h
  obtain ⟨xn, nn, cn, rfl, g⟩ := kN_shapeA g
  have b1 := (Below.refl w.heap.size w).alloc (Nat.le_refl _) (.cells #[.slice x0 n0 c0, .slice x1 n1 c1, .slice x2 n2 c2, .slice x3 n3 c3] 29)
  have b2 := (Below.refl (w.alloc (.cells #[.slice x0 n0 c0, .slice x1 n1 c1, .slice x2 n2 c2, .slice x3 n3 c3] 29)).heap.size (w.alloc (.cells #[.slice x0 n0 c0, .slice x1 n1 c1, .slice x2 n2 c2, .slice x3 n3 c3] 29))).alloc (Nat.le_refl _) (.cells #[.slice xn nn cn] 32)
  have HB := Lib.hid (b1.trans (b2.mono b1.size))
  have HX := Lib.hid ((Ret.Blk.new w #[.slice x0 n0 c0, .slice x1 n1 c1, .slice x2 n2 c2, .slice x3 n3 c3] 29).on b2)
  have HY := Lib.hid (Ret.Blk.new' (w := w.alloc (.cells #[.slice x0 n0 c0, .slice x1 n1 c1, .slice x2 n2 c2, .slice x3 n3 c3] 29)) (n := w.heap.size + 1) #[.slice xn nn cn] 32 (by simp))
  have G2 := Lib.hid (g2.on HB.out)
  have HC := Lib.hid (show ClosK Tryz.prog kNn 81 #[.pointer (some ⟨w.heap.size + 1, 0, none⟩)] (fun a => decide (a = m)) (fun a => bulk a ≤ 9000000) ((w.alloc (.cells #[.slice x0 n0 c0, .slice x1 n1 c1, .slice x2 n2 c2, .slice x3 n3 c3] 29)).alloc (.cells #[.slice xn nn cn] 32)) from
    fun a W0 W hW ha hk => anchorClos _ W0 a m xn nn cn W _ rfl (HY.out.on hW) ha ((g.on HB.out).on hW) hk hm)
  have HZ := Lib.hid hz; have HP := Lib.hid hp
  clear b1 b2 g0 g1 g2 g3 g h hz hp
  have q2 : ((w.alloc (.cells #[.slice x0 n0 c0, .slice x1 n1 c1, .slice x2 n2 c2, .slice x3 n3 c3] 29)).alloc (.cells #[.slice xn nn cn] 32)).cell? ⟨w.heap.size, 2, none⟩ = some (.slice x2 n2 c2) := HX.out.cell 2
  go_enter Tryz.func25, Tryz.ntmps25
  go_wp2_with fail
  refine (containsAnc _ (fun a => decide (a = m)) (fun a => bulk a ≤ 9000000) _ t.2.2.1 _ z HZ.out G2.out hl HP.out HC.out).mono ?_
  rintro e w1 ⟨rfl, hb⟩
  replace HB := Lib.hid (HB.out.trans (hb.mono HB.out.size))
  clear hb
  go_wp2_with fail
  go_ret
  exact ⟨rfl, HB.out⟩

/-! ### KeyDigest -/
set_option maxHeartbeats 4000000 in
theorem implKeyDigest (V U : Value) (T : Ring.Kt) (m : List ByteArray) (w : World) (z : List Int) (hz : digK T m = z) (h : Ring.kK.At w V T) (g : kN.At w U m) (hl : Ring.bulkT T ≤ 1200000) (hm : bulk m ≤ 1200000) :
    Calls Tryz.prog 29 #[V, U] w (Sl.GivesB w z) := by
  obtain ⟨x, n, c, rfl, h⟩ := Ring.kK_shapeA h
  obtain ⟨xn, nn, cn, rfl, g⟩ := kN_shapeA g
  have hal := (Below.refl w.heap.size w).alloc (Nat.le_refl _) (.cells #[.slice xn nn cn] 32)
  have HB := Lib.hid hal
  have HC := Lib.hid (Ret.Box.new w (.slice xn nn cn) 32)
  have HS := Lib.hid (Ring.implSecretOfK _ _ T m _ (h.on hal) (g.on hal) hl hm)
  have HZ := Lib.hid hz
  clear h g hal hz hl hm
  go_enter Tryz.func29, Tryz.ntmps29
  have c0 := HC.out.cell
  go_wp2_with fail
  refine HS.out.mono ?_
  rintro e w1 ⟨rfl, hb⟩
  replace HB := Lib.hid (HB.out.trans (hb.mono HB.out.size))
  clear hb c0 HS HC
  obtain ⟨s, hs⟩ : ∃ s, Ring.lkN T m = s := ⟨_, rfl⟩
  rw [hs]
  have HK := Lib.hid hs
  clear hs
  by_cases h0 : s = 0
  · subst h0
    have HE := Lib.hid (show z = [] by rw [← HZ.out]; unfold digK; rw [if_pos HK.out])
    have HO := Lib.hid (Sl.own_empty .u8 5 w1)
    go_wp2_with fail
    go_ret
    exact ⟨_, rfl, by rw [HE.out]; exact Sl.Own.mono HO.out HB.out.size, HB.out.alloc HB.out.size _⟩
  · have HE := Lib.hid (show z = [] ++ Var.var (Seal.digest [s]) by rw [← HZ.out]; unfold digK; rw [HK.out, if_neg h0]; rfl)
    have hb2 := (Below.refl w1.heap.size w1).alloc (Nat.le_refl _) (.cells #[.int .i64 s] 3)
    have HO := Lib.hid (show Sl.Holds .u8 (w1.alloc (.cells #[.int .i64 s] 3)) (.slice none 0 0) [] from ⟨none, 0, rfl, Nat.le_refl _, Or.inl rfl⟩)
    have HI := Lib.hid (Sl.holds_one .i64 3 w1 s)
    have HBB := Lib.hid (HB.out.trans (hb2.mono HB.out.size))
    clear hb2
    go_wp2_with fail
    refine (Sl.implDigest _ [s] _ HI.out (by simp)).mono ?_
    rintro e w2 ⟨rfl, rfl⟩
    go_wp2_with fail
    refine (Sl.implAppendVarint _ [] _ _ HO.out (by decide)).mono ?_
    rintro e w3 ⟨v, rfl, ho, hb⟩
    have HV := Lib.hid (Sl.Own.mono ho HBB.out.size); have HB3 := Lib.hid (HBB.out.trans (hb.mono HBB.out.size))
    clear ho hb
    go_wp2_with fail
    go_ret
    exact ⟨_, rfl, by rw [HE.out]; exact HV.out, HB3.out⟩

/-! ### ValidTrust -/
end Go.Proofs.YtcidfmmeonhkhaaGreatDoor.Row
/- IssueCertificate, the model's and the program's. No conditions but that lengths fit. -/
namespace Go.Proofs.YtcidfmmeonhkhaaGreatDoor.Row
open Go.ChangeShapes Go.WideShapes Go.ChangeAt Go.RowKit Go.Instr
set_option linter.unusedVariables false
set_option maxRecDepth 100000

theorem size_five11 {g : Nat} {w : World} {a b c f s : Value} : ((((((w).setCell ⟨g, 0, none⟩ (a)).setCell ⟨g, 1, none⟩ (b)).setCell ⟨g, 2, none⟩ (c)).setCell ⟨g, 3, none⟩ (f)).setCell ⟨g, 4, none⟩ (s)).heap.size = w.heap.size := by simp [World.setCell]
/-- A result laid in a variable: all that was there is kept. -/
theorem five_facts11 {B B' : Nat} {w wx : World} {gD ma da mb db mc dc_ : Nat} {ya yb yc : Option Addr} {x : Dt} (hgd : B ≤ gD) (hB : B ≤ B') (hxd : Ret.Blk wx gD (dc (.slice none 0 0) (.slice none 0 0) (.slice none 0 0) 0 0) 34)
    (hin : kD.In B' wx.heap.size wx (.agg #[.slice ya ma da, .slice yb mb db, .slice yc mc dc_, .int .i64 x.2.2.2.1, .int .i64 x.2.2.2.2]) x) (hb : Below B w wx) :
    Below B w ((((((wx).setCell ⟨gD, 0, none⟩ (.slice ya ma da)).setCell ⟨gD, 1, none⟩ (.slice yb mb db)).setCell ⟨gD, 2, none⟩ (.slice yc mc dc_)).setCell ⟨gD, 3, none⟩ (.int .i64 x.2.2.2.1)).setCell ⟨gD, 4, none⟩ (.int .i64 x.2.2.2.2)) ∧ kD.In B ((((((wx).setCell ⟨gD, 0, none⟩ (.slice ya ma da)).setCell ⟨gD, 1, none⟩ (.slice yb mb db)).setCell ⟨gD, 2, none⟩ (.slice yc mc dc_)).setCell ⟨gD, 3, none⟩ (.int .i64 x.2.2.2.1)).setCell ⟨gD, 4, none⟩ (.int .i64 x.2.2.2.2)).heap.size ((((((wx).setCell ⟨gD, 0, none⟩ (.slice ya ma da)).setCell ⟨gD, 1, none⟩ (.slice yb mb db)).setCell ⟨gD, 2, none⟩ (.slice yc mc dc_)).setCell ⟨gD, 3, none⟩ (.int .i64 x.2.2.2.1)).setCell ⟨gD, 4, none⟩ (.int .i64 x.2.2.2.2)) (.agg #[.slice ya ma da, .slice yb mb db, .slice yc mc dc_, .int .i64 x.2.2.2.1, .int .i64 x.2.2.2.2]) x ∧ Ret.Blk ((((((wx).setCell ⟨gD, 0, none⟩ (.slice ya ma da)).setCell ⟨gD, 1, none⟩ (.slice yb mb db)).setCell ⟨gD, 2, none⟩ (.slice yc mc dc_)).setCell ⟨gD, 3, none⟩ (.int .i64 x.2.2.2.1)).setCell ⟨gD, 4, none⟩ (.int .i64 x.2.2.2.2)) gD #[.slice ya ma da, .slice yb mb db, .slice yc mc dc_, .int .i64 x.2.2.2.1, .int .i64 x.2.2.2.2] 34 := by
  refine ⟨Ring.below_five hb hgd, ?_, Ring.blk_five hxd⟩
  obtain ⟨a, b, c, e, ho, h1, h2, h3⟩ := kD_in hin
  have e2 := congrArg (fun v => match v with | Value.agg cs => cs.toList | _ => []) e
  simp only [List.cons.injEq, and_true] at e2
  obtain ⟨rfl, rfl, rfl⟩ := e2
  refine kD_mk ((ho.five hxd).mono hB) ?_
  rw [size_five11]
  exact ⟨h1, h2, h3⟩
theorem cells5_11 {w : World} {g : Nat} {c0 c1 c2 c3 c4 : Value} {t : TypeId} (h : Ret.Blk w g #[c0, c1, c2, c3, c4] t) : w.cell? ⟨g, 0, none⟩ = some c0 ∧ w.cell? ⟨g, 1, none⟩ = some c1 ∧ w.cell? ⟨g, 2, none⟩ = some c2 ∧ w.cell? ⟨g, 3, none⟩ = some c3 ∧ w.cell? ⟨g, 4, none⟩ = some c4 := ⟨h.cell 0, h.cell 1, h.cell 2, h.cell 3, h.cell 4⟩
theorem froz5_11 {w : World} {g : Nat} {cs : Array Value} {t : TypeId} (h : Ret.Blk w g cs t) : w.frozen? ⟨g, 0, none⟩ = false ∧ w.frozen? ⟨g, 1, none⟩ = false ∧ w.frozen? ⟨g, 2, none⟩ = false ∧ w.frozen? ⟨g, 3, none⟩ = false ∧ w.frozen? ⟨g, 4, none⟩ = false := ⟨h.frozen 0, h.frozen 1, h.frozen 2, h.frozen 3, h.frozen 4⟩
theorem cell_five11 {w : World} {p g i : Nat} {u a b c f s : Value} (h : w.cell? ⟨p, i, none⟩ = some u) (hn : p ≠ g) : ((((((w).setCell ⟨g, 0, none⟩ (a)).setCell ⟨g, 1, none⟩ (b)).setCell ⟨g, 2, none⟩ (c)).setCell ⟨g, 3, none⟩ (f)).setCell ⟨g, 4, none⟩ (s)).cell? ⟨p, i, none⟩ = some u := by
  have st : ∀ {w1 : World} (j : Nat) (v : Value), w1.cell? ⟨p, i, none⟩ = some u → (w1.setCell ⟨g, j, none⟩ v).cell? ⟨p, i, none⟩ = some u := fun {w1} j v h1 => (World.cell?_of_block (w := w1) (Go.RowKit.Below.heap_setCell _ _ _ _ hn)).trans h1
  exact st 4 _ (st 3 _ (st 2 _ (st 1 _ (st 0 _ h))))
set_option maxRecDepth 100000 in
set_option maxHeartbeats 4000000 in
theorem specIss {Q : Exit → Act → World → Prop} {v1 v2 v4 v7 v9 v10 v11 v12 v13 v14 v15 v16 v17 v18 v19 : Value} {w : World} {p q gD nl cl nk ck nn cn : Nat} {xl xk xn : Option Addr} {T : Ring.Kt} {lk ln : List ByteArray} {a : Int} (H_t : Hid (Ring.kK.At w (.slice xl nl cl) T)) (H_k : Hid (kN.At w (.agg #[.slice xk nk ck]) lk)) (H_n : Hid (kN.At w (.agg #[.slice xn nn cn]) ln)) (XD : Hid (Ret.Blk w gD #[.slice none 0 0, .slice none 0 0, .slice none 0 0, .int .i64 0, .int .i64 0] 34)) (HPD : Hid (p ≠ gD)) (HQD : Hid (q ≠ gD)) (HT : Hid (Ring.bulkT T ≤ 1200000)) (HLK : Hid (bulk lk ≤ 1200000)) (HLN : Hid (bulk ln ≤ 1200000)) (KN : Hid (w.cell? ⟨p, 0, none⟩ = some (.slice xn nn cn))) (KK : Hid (w.cell? ⟨q, 0, none⟩ = some (.slice xk nk ck)))
    (hQ : ∀ (u10 u11 u12 u13 u14 u15 u16 u17 u18 u19 : Value) (ma da mb db mc dc_ : Nat) (ya yb yc : Option Addr)  (wx : World), kD.In w.heap.size wx.heap.size wx (.agg #[.slice ya ma da, .slice yb mb db, .slice yc mc dc_, .int .i64 (Ring.sgK T lk ln (digK T ln) a).2.2.2.1, .int .i64 (Ring.sgK T lk ln (digK T ln) a).2.2.2.2]) (Ring.sgK T lk ln (digK T ln) a) → Below w.heap.size w wx → Q .normal ⟨#[.slice xl nl cl, v1, v2, .int .i64 a, v4, .pointer (some ⟨p, 0, none⟩), .pointer (some ⟨q, 0, none⟩), v7, .pointer (some ⟨gD, 0, none⟩), .bool (Ring.sgOk T lk ln (digK T ln) a), u10, u11, u12, u13, u14, u15, u16, u17, u18, u19], []⟩ ((((((wx).setCell ⟨gD, 0, none⟩ (.slice ya ma da)).setCell ⟨gD, 1, none⟩ (.slice yb mb db)).setCell ⟨gD, 2, none⟩ (.slice yc mc dc_)).setCell ⟨gD, 3, none⟩ (.int .i64 (Ring.sgK T lk ln (digK T ln) a).2.2.2.1)).setCell ⟨gD, 4, none⟩ (.int .i64 (Ring.sgK T lk ln (digK T ln) a).2.2.2.2))) :
    (Code.region 1 #[{ dst := some 10, op := Op.move (Operand.tmp 0), type := 24, pos := "l11_trust.go:101", after := #[], guard := none },
      { dst := some 11, op := Op.load 32 (Operand.tmp 6), type := 32, pos := "l11_trust.go:101", after := #[], guard := none },
      { dst := some 12, op := Op.load 32 (Operand.tmp 5), type := 32, pos := "l11_trust.go:101", after := #[], guard := none },
      { dst := some 13, op := Op.move (Operand.tmp 0), type := 24, pos := "l11_trust.go:101", after := #[], guard := none },
      { dst := some 14, op := Op.load 32 (Operand.tmp 5), type := 32, pos := "l11_trust.go:101", after := #[], guard := none },
      { dst := some 15, op := Op.call { callee := Callee.value (Operand.func 30), args := #[Operand.tmp 13, Operand.tmp 14], argTypes := #[24, 32] }, type := 22, pos := "l11_trust.go:101", after := #[{ on := 3, ground := Ground.data }, { on := 4, ground := Ground.data }], guard := none },
      { dst := some 16, op := Op.move (Operand.tmp 3), type := 3, pos := "l11_trust.go:101", after := #[], guard := none },
      { dst := some 17, op := Op.call { callee := Callee.value (Operand.func 61), args := #[Operand.tmp 10, Operand.tmp 11, Operand.tmp 12, Operand.tmp 15, Operand.tmp 16], argTypes := #[24, 32, 32, 22, 3] }, type := 46, pos := "l11_trust.go:101", after := #[{ on := 0, ground := Ground.data }, { on := 1, ground := Ground.data }, { on := 2, ground := Ground.data }, { on := 5, ground := Ground.data }, { on := 6, ground := Ground.data }, { on := 5, ground := Ground.chain }], guard := none },
      { dst := some 18, op := Op.extract (Operand.tmp 17) 0, type := 34, pos := "l11_trust.go:101", after := #[{ on := 7, ground := Ground.data }], guard := none },
      { dst := some 19, op := Op.extract (Operand.tmp 17) 1, type := 4, pos := "l11_trust.go:101", after := #[{ on := 7, ground := Ground.data }], guard := none },
      { dst := none, op := Op.store 34 (Operand.tmp 8) (Operand.tmp 18), type := 0, pos := "l11_trust.go:101", after := #[{ on := 8, ground := Ground.data }, { on := 7, ground := Ground.chain }, { on := 0, ground := Ground.phase }, { on := 1, ground := Ground.phase }, { on := 2, ground := Ground.phase }, { on := 3, ground := Ground.phase }, { on := 4, ground := Ground.phase }, { on := 5, ground := Ground.phase }, { on := 6, ground := Ground.phase }, { on := 7, ground := Ground.phase }, { on := 8, ground := Ground.phase }, { on := 9, ground := Ground.phase }], guard := none },
      { dst := some 9, op := Op.assign (Operand.tmp 19), type := 4, pos := "l11_trust.go:101", after := #[{ on := 9, ground := Ground.data }, { on := 10, ground := Ground.chain }, { on := 0, ground := Ground.phase }, { on := 1, ground := Ground.phase }, { on := 2, ground := Ground.phase }, { on := 3, ground := Ground.phase }, { on := 4, ground := Ground.phase }, { on := 5, ground := Ground.phase }, { on := 6, ground := Ground.phase }, { on := 7, ground := Ground.phase }, { on := 8, ground := Ground.phase }, { on := 9, ground := Ground.phase }, { on := 10, ground := Ground.phase }], guard := none }] true).wp Tryz.prog Q ⟨#[.slice xl nl cl, v1, v2, .int .i64 a, v4, .pointer (some ⟨p, 0, none⟩), .pointer (some ⟨q, 0, none⟩), v7, .pointer (some ⟨gD, 0, none⟩), v9, v10, v11, v12, v13, v14, v15, v16, v17, v18, v19], []⟩ w := by
  have HQ := Lib.hid hQ; clear hQ
  have hdr : Below w.heap.size w w.drew := (Below.refl _ _).drew
  have BB := Lib.hid hdr
  refine wp_region_noPanic ?_
  refine wp_region_held_drew (S := (fun w' => w'.cell? ⟨p, 0, none⟩ = some (.slice xn nn cn) ∧ w'.cell? ⟨q, 0, none⟩ = some (.slice xk nk ck))) (by kernel_rfl) ?_ (fun hHeld => ?_)
  · exact ⟨kc KN.out BB.out, kc KK.out BB.out⟩
  clear hdr
  generalize w.drew = wd at *
  refine wpAnyH_take (i := 0) (oi := { dst := some 10, op := Op.move (Operand.tmp 0), type := 24, pos := "l11_trust.go:101", after := #[], guard := none }) (v := ?_) rfl (by kernel_rfl) (by kernel_rfl) (by kernel_rfl) (fun _ _ _ h => h) (Or.inl ⟨by rfl, ?_⟩) (by assumption) ?_
  rotate_left
  · intro w' hSw; (try dsimp only at hSw); first | (go_simp; done) | (go_simp; with_reducible rfl)
  (try simp only [Act.put, List.setIfInBounds_toArray, List.set_cons_zero, List.set_cons_succ])
  refine wpAnyH_take (i := 1) (oi := { dst := some 11, op := Op.load 32 (Operand.tmp 6), type := 32, pos := "l11_trust.go:101", after := #[], guard := none }) (v := ?_) rfl (by kernel_rfl) (by kernel_rfl) (by kernel_rfl) (fun _ _ _ h => h) (Or.inl ⟨by rfl, ?_⟩) (by assumption) ?_
  rotate_left
  · intro w' hSw; (try dsimp only at hSw); first | (go_simp; done) | (go_simp; with_reducible rfl)
  (try simp only [Act.put, List.setIfInBounds_toArray, List.set_cons_zero, List.set_cons_succ])
  refine wpAnyH_take (i := 2) (oi := { dst := some 12, op := Op.load 32 (Operand.tmp 5), type := 32, pos := "l11_trust.go:101", after := #[], guard := none }) (v := ?_) rfl (by kernel_rfl) (by kernel_rfl) (by kernel_rfl) (fun _ _ _ h => h) (Or.inl ⟨by rfl, ?_⟩) (by assumption) ?_
  rotate_left
  · intro w' hSw; (try dsimp only at hSw); first | (go_simp; done) | (go_simp; with_reducible rfl)
  (try simp only [Act.put, List.setIfInBounds_toArray, List.set_cons_zero, List.set_cons_succ])
  refine wpAnyH_take (i := 3) (oi := { dst := some 13, op := Op.move (Operand.tmp 0), type := 24, pos := "l11_trust.go:101", after := #[], guard := none }) (v := ?_) rfl (by kernel_rfl) (by kernel_rfl) (by kernel_rfl) (fun _ _ _ h => h) (Or.inl ⟨by rfl, ?_⟩) (by assumption) ?_
  rotate_left
  · intro w' hSw; (try dsimp only at hSw); first | (go_simp; done) | (go_simp; with_reducible rfl)
  (try simp only [Act.put, List.setIfInBounds_toArray, List.set_cons_zero, List.set_cons_succ])
  refine wpAnyH_take (i := 4) (oi := { dst := some 14, op := Op.load 32 (Operand.tmp 5), type := 32, pos := "l11_trust.go:101", after := #[], guard := none }) (v := ?_) rfl (by kernel_rfl) (by kernel_rfl) (by kernel_rfl) (fun _ _ _ h => h) (Or.inl ⟨by rfl, ?_⟩) (by assumption) ?_
  rotate_left
  · intro w' hSw; (try dsimp only at hSw); first | (go_simp; done) | (go_simp; with_reducible rfl)
  (try simp only [Act.put, List.setIfInBounds_toArray, List.set_cons_zero, List.set_cons_succ])
  refine wpAnyH_take (i := 6) (oi := { dst := some 16, op := Op.move (Operand.tmp 3), type := 3, pos := "l11_trust.go:101", after := #[], guard := none }) (v := ?_) rfl (by kernel_rfl) (by kernel_rfl) (by kernel_rfl) (fun _ _ _ h => h) (Or.inl ⟨by rfl, ?_⟩) (by assumption) ?_
  rotate_left
  · intro w' hSw; (try dsimp only at hSw); first | (go_simp; done) | (go_simp; with_reducible rfl)
  (try simp only [Act.put, List.setIfInBounds_toArray, List.set_cons_zero, List.set_cons_succ])
  refine wpAnyH_ready (rs := [5]) (by kernel_rfl) (by simp) ?_
  refine AllReadyH.cons (o := { dst := some 15, op := Op.call { callee := Callee.value (Operand.func 30), args := #[Operand.tmp 13, Operand.tmp 14], argTypes := #[24, 32] }, type := 22, pos := "l11_trust.go:101", after := #[{ on := 3, ground := Ground.data }, { on := 4, ground := Ground.data }], guard := none }) rfl (fun K hK => ?_) AllReadyH.nil
  go_simp
  refine (specKeyDigest _ _ T ln _ _ rfl (H_t.out.on BB.out) (H_n.out.on BB.out) HT.out HLN.out).mono ?_
  rintro e wn1 ⟨v15, rfl, ho, hb⟩
  obtain ⟨x15, n15, rfl, -, h15⟩ := ho.holds.shape
  have H15 := Lib.hid (kB_of h15); clear ho h15
  replace BB := Lib.hid (BB.out.trans (hb.mono BB.out.size))
  clear hb
  (try go_wp2_with fail)
  clear hHeld
  refine hK.out _ _ ?_ (fun hHeld => ?_)
  · (try dsimp only); exact ⟨kc KN.out BB.out, kc KK.out BB.out⟩
  clear hK K
  (try simp only [Act.put, List.setIfInBounds_toArray, List.set_cons_zero, List.set_cons_succ])
  refine wpAnyH_ready (rs := [7]) (by kernel_rfl) (by simp) ?_
  refine AllReadyH.cons (o := { dst := some 17, op := Op.call { callee := Callee.value (Operand.func 61), args := #[Operand.tmp 10, Operand.tmp 11, Operand.tmp 12, Operand.tmp 15, Operand.tmp 16], argTypes := #[24, 32, 32, 22, 3] }, type := 46, pos := "l11_trust.go:101", after := #[{ on := 0, ground := Ground.data }, { on := 1, ground := Ground.data }, { on := 2, ground := Ground.data }, { on := 5, ground := Ground.data }, { on := 6, ground := Ground.data }, { on := 5, ground := Ground.chain }], guard := none }) rfl (fun K hK => ?_) AllReadyH.nil
  go_simp
  refine (Ring.specSignWithKeyK _ _ _ _ T lk ln (digK T ln) a _ (H_t.out.on BB.out) (H_k.out.on BB.out) (H_n.out.on BB.out) H15.out (digK_byt _ _) HT.out HLK.out HLN.out (Nat.le_trans (digK_len T ln) (by decide))).mono ?_
  rintro e wn2 ⟨v, rfl, ho, hb⟩
  obtain ⟨ya, ma, da, yb, mb, db, yc, mc, dc_, rfl, ho⟩ := kD_shape ho
  have HXX := Lib.hid (show kD.In w.heap.size wn2.heap.size wn2 (.agg #[.slice ya ma da, .slice yb mb db, .slice yc mc dc_, .int .i64 (Ring.sgK T lk ln (digK T ln) a).2.2.2.1, .int .i64 (Ring.sgK T lk ln (digK T ln) a).2.2.2.2]) (Ring.sgK T lk ln (digK T ln) a) from Kd.In.mono ho BB.out.size (Nat.le_refl _)); clear ho
  replace H15 := Lib.hid (H15.out.on hb)
  replace BB := Lib.hid (BB.out.trans (hb.mono BB.out.size))
  clear hb
  (try go_wp2_with fail)
  clear hHeld
  refine hK.out _ _ ?_ (fun hHeld => ?_)
  · (try dsimp only); exact ⟨kc KN.out BB.out, kc KK.out BB.out⟩
  clear hK K
  (try simp only [Act.put, List.setIfInBounds_toArray, List.set_cons_zero, List.set_cons_succ])
  refine wpAnyH_take (i := 8) (oi := { dst := some 18, op := Op.extract (Operand.tmp 17) 0, type := 34, pos := "l11_trust.go:101", after := #[{ on := 7, ground := Ground.data }], guard := none }) (v := ?_) rfl (by kernel_rfl) (by kernel_rfl) (by kernel_rfl) (fun _ _ _ h => h) (Or.inl ⟨by rfl, ?_⟩) (by assumption) ?_
  rotate_left
  · intro w' hSw; (try dsimp only at hSw); first | (go_simp; done) | (go_simp; with_reducible rfl)
  (try simp only [Act.put, List.setIfInBounds_toArray, List.set_cons_zero, List.set_cons_succ])
  refine wpAnyH_take (i := 9) (oi := { dst := some 19, op := Op.extract (Operand.tmp 17) 1, type := 4, pos := "l11_trust.go:101", after := #[{ on := 7, ground := Ground.data }], guard := none }) (v := ?_) rfl (by kernel_rfl) (by kernel_rfl) (by kernel_rfl) (fun _ _ _ h => h) (Or.inl ⟨by rfl, ?_⟩) (by assumption) ?_
  rotate_left
  · intro w' hSw; (try dsimp only at hSw); first | (go_simp; done) | (go_simp; with_reducible rfl)
  (try simp only [Act.put, List.setIfInBounds_toArray, List.set_cons_zero, List.set_cons_succ])
  refine wpAnyH_ready (rs := [10]) (by kernel_rfl) (by simp) ?_
  refine AllReadyH.cons (o := { dst := none, op := Op.store 34 (Operand.tmp 8) (Operand.tmp 18), type := 0, pos := "l11_trust.go:101", after := #[{ on := 8, ground := Ground.data }, { on := 7, ground := Ground.chain }, { on := 0, ground := Ground.phase }, { on := 1, ground := Ground.phase }, { on := 2, ground := Ground.phase }, { on := 3, ground := Ground.phase }, { on := 4, ground := Ground.phase }, { on := 5, ground := Ground.phase }, { on := 6, ground := Ground.phase }, { on := 7, ground := Ground.phase }, { on := 8, ground := Ground.phase }, { on := 9, ground := Ground.phase }], guard := none }) rfl (fun K hK => ?_) AllReadyH.nil
  obtain ⟨r0, r1, r2, r3, r4⟩ := cells5_11 (XD.out.on BB.out)
  obtain ⟨t0, t1, t2, t3, t4⟩ := froz5_11 (XD.out.on BB.out)
  go_simp
  clear hHeld
  refine hK.out _ _ ?_ (fun hHeld => ?_)
  · (try dsimp only); exact ⟨cell_five11 (kc KN.out BB.out) HPD.out, cell_five11 (kc KK.out BB.out) HQD.out⟩
  clear hK K
  (try simp only [Act.put, List.setIfInBounds_toArray, List.set_cons_zero, List.set_cons_succ])
  refine wpAnyH_take (i := 11) (oi := { dst := some 9, op := Op.assign (Operand.tmp 19), type := 4, pos := "l11_trust.go:101", after := #[{ on := 9, ground := Ground.data }, { on := 10, ground := Ground.chain }, { on := 0, ground := Ground.phase }, { on := 1, ground := Ground.phase }, { on := 2, ground := Ground.phase }, { on := 3, ground := Ground.phase }, { on := 4, ground := Ground.phase }, { on := 5, ground := Ground.phase }, { on := 6, ground := Ground.phase }, { on := 7, ground := Ground.phase }, { on := 8, ground := Ground.phase }, { on := 9, ground := Ground.phase }, { on := 10, ground := Ground.phase }], guard := none }) (v := ?_) rfl (by kernel_rfl) (by kernel_rfl) (by kernel_rfl) (fun _ _ _ h => h) (Or.inl ⟨by rfl, ?_⟩) (by assumption) ?_
  rotate_left
  · intro w' hSw; (try dsimp only at hSw); first | (go_simp; done) | (go_simp; with_reducible rfl)
  (try simp only [Act.put, List.setIfInBounds_toArray, List.set_cons_zero, List.set_cons_succ])
  refine wpAnyH_done (by kernel_rfl) ?_ _
  exact NoPanic.normal (HQ.out _ _ _ _ _ _ _ _ _ _ ma da mb db mc dc_ ya yb yc _ HXX.out BB.out)

set_option maxHeartbeats 8000000 in
theorem specIssueCertificate (V U1 U2 : Value) (T : Ring.Kt) (ln lk : List ByteArray) (a : Int) (w : World) (h : Ring.kK.At w V T) (g1 : kN.At w U1 ln) (g2 : kN.At w U2 lk) (hl : Ring.bulkT T ≤ 1200000) (h1 : bulk ln ≤ 1200000) (h2 : bulk lk ≤ 1200000) :
    Calls Tryz.prog 17 #[V, U1, U2, .int .i64 a] w fun e w' => ∃ X, e = .returned (.tuple #[X, .bool (Ring.sgOk T lk ln (digK T ln) a)]) ∧ kD.In w.heap.size w'.heap.size w' X (Ring.sgK T lk ln (digK T ln) a) ∧ Below w.heap.size w w' := by
  obtain ⟨xl, nl, cl, rfl, h⟩ := Ring.kK_shapeA h
  obtain ⟨xn, nn, cn, rfl, g1⟩ := kN_shapeA g1
  obtain ⟨xk, nk, ck, rfl, g2⟩ := kN_shapeA g2
  have b1 := (Below.refl w.heap.size w).alloc (Nat.le_refl _) (.cells #[.slice xn nn cn] 32)
  have b2 := (Below.refl (w.alloc (.cells #[.slice xn nn cn] 32)).heap.size (w.alloc (.cells #[.slice xn nn cn] 32))).alloc (Nat.le_refl _) (.cells #[.slice xk nk ck] 32)
  have b3 := (Below.refl ((w.alloc (.cells #[.slice xn nn cn] 32)).alloc (.cells #[.slice xk nk ck] 32)).heap.size ((w.alloc (.cells #[.slice xn nn cn] 32)).alloc (.cells #[.slice xk nk ck] 32))).alloc (Nat.le_refl _) (.cells #[.slice none 0 0, .slice none 0 0, .slice none 0 0, .int .i64 0, .int .i64 0] 34)
  have b23 := b2.trans (b3.mono b2.size)
  have hb0 := b1.trans (b23.mono b1.size)
  have HB := Lib.hid hb0
  have HX := Lib.hid ((Ret.Blk.new w #[.slice xn nn cn] 32).on b23)
  have HY := Lib.hid ((Ret.Blk.new' (w := (w.alloc (.cells #[.slice xn nn cn] 32))) (n := w.heap.size + 1) #[.slice xk nk ck] 32 (by simp)).on b3)
  have HD := Lib.hid (Ret.Blk.new' (w := ((w.alloc (.cells #[.slice xn nn cn] 32)).alloc (.cells #[.slice xk nk ck] 32))) (n := w.heap.size + 1 + 1) #[.slice none 0 0, .slice none 0 0, .slice none 0 0, .int .i64 0, .int .i64 0] 34 (by simp))
  have H0 := Lib.hid (h.on hb0); have H1 := Lib.hid (g1.on hb0); have H2 := Lib.hid (g2.on hb0)
  obtain ⟨W, hW⟩ : ∃ W, (((w.alloc (.cells #[.slice xn nn cn] 32)).alloc (.cells #[.slice xk nk ck] 32)).alloc (.cells #[.slice none 0 0, .slice none 0 0, .slice none 0 0, .int .i64 0, .int .i64 0] 34)) = W := ⟨_, rfl⟩
  rw [hW] at HB HX HY HD H0 H1 H2
  have HW := Lib.hid hW
  clear b1 b2 b3 b23 hb0 h g1 g2 hW
  go_enter Tryz.func17, Tryz.ntmps17
  go_upto_region 1 with fail
  rw [HW.out]
  clear HW
  refine specIss H0 H2 H1 HD (Lib.hid (by omega)) (Lib.hid (by omega)) (Lib.hid hl) (Lib.hid h2) (Lib.hid h1) (Lib.hid (HX.out.cell 0)) (Lib.hid (HY.out.cell 0)) ?_
  intro u10 u11 u12 u13 u14 u15 u16 u17 u18 u19 ma da mb db mc dc_ ya yb yc wx hin hb
  have HD2 := HD.out.on hb
  obtain ⟨k1, k2, k3⟩ := five_facts11 (B := w.heap.size) (w := w) (by omega) HB.out.size HD2 hin (HB.out.trans (hb.mono HB.out.size))
  generalize ((((((wx).setCell ⟨(w.heap.size + 1 + 1), 0, none⟩ (.slice ya ma da)).setCell ⟨(w.heap.size + 1 + 1), 1, none⟩ (.slice yb mb db)).setCell ⟨(w.heap.size + 1 + 1), 2, none⟩ (.slice yc mc dc_)).setCell ⟨(w.heap.size + 1 + 1), 3, none⟩ (.int .i64 (Ring.sgK T lk ln (digK T ln) a).2.2.2.1)).setCell ⟨(w.heap.size + 1 + 1), 4, none⟩ (.int .i64 (Ring.sgK T lk ln (digK T ln) a).2.2.2.2)) = w5 at *
  have K1 := Lib.hid k1; have K2 := Lib.hid k2; have K3 := Lib.hid k3
  clear k1 k2 k3 HD2 hin hb HD HX HY
  go_wp2_with fail
  refine bodyPost_ret (Ret.results_ct rfl _ _ (w.heap.size + 1 + 1) (#[.slice ya ma da, .slice yb mb db, .slice yc mc dc_, .int .i64 (Ring.sgK T lk ln (digK T ln) a).2.2.2.1, .int .i64 (Ring.sgK T lk ln (digK T ln) a).2.2.2.2] : Array Value).toList rfl aggD K3.out.cells) rfl ?_
  exact ⟨_, rfl, K2.out, K1.out⟩

end Go.Proofs.YtcidfmmeonhkhaaGreatDoor.Row
