/- Contracts of the reference model's draws of chapter 5: patterns, names, bindings, texts. What was in memory stays as it was. -/
import Derived.Test.YtoibmgnmnmeklaaDrawPair
import Derived.Test.YtoibmgnmnmeklaaBindLaw
namespace Go.Proofs.Ytoibmgnmnmeklaa.Ret
variable {P : Program}
theorem results_cct {fn : Func} {p p2 u : Tmp} {ty ty2 : TypeId} (h : fn.results = #[.cell p ty, .cell p2 ty2, .tmp u]) (tmps : Array Value) (w : World) (b b2 : Nat) (cs cs2 : List Value) (hp : tmps.getD p undef = .pointer (some ⟨b, 0, none⟩)) (hp2 : tmps.getD p2 undef = .pointer (some ⟨b2, 0, none⟩))
    (ha : AggOf P ty cs.length) (ha2 : AggOf P ty2 cs2.length) (hc : ∀ j v, cs[j]? = some v → w.cell? ⟨b, j, none⟩ = some v) (hc2 : ∀ j v, cs2[j]? = some v → w.cell? ⟨b2, j, none⟩ = some v) : (results fn tmps).run P w = .ok (.tuple #[.agg cs.toArray, .agg cs2.toArray, tmps.getD u undef]) w := by
  have hp' : tmps[p]?.getD undef = .pointer (some ⟨b, 0, none⟩) := by simpa using hp
  have hp2' : tmps[p2]?.getD undef = .pointer (some ⟨b2, 0, none⟩) := by simpa using hp2
  have hl := run_loadVar_cells (P := P) w b ty cs hc ha
  have hl2 := run_loadVar_cells (P := P) w b2 ty2 cs2 hc2 ha2
  simp [results, h, hp', hp2', asAddr, hl, hl2, Result.andThen]
end Go.Proofs.Ytoibmgnmnmeklaa.Ret
namespace Go.Proofs.Ytoibmgnmnmeklaa.Draw
open Go.ChangeShapes Go.WideShapes Go.ChangeAt Go.RowKit Go.Instr
open Go.Proofs.Ytoibmgnmnmeklaa.Row (bulk bulk_append bulk_one bulk_nil bulk_cons elemSTR oneStr encBd OwnK HoldsK bulk2 kindBd szBd)
open Go.Proofs.Ytoibmgnmnmeklaa.Ret (NC)
set_option linter.unusedVariables false
set_option maxRecDepth 100000

abbrev OwnBd (B : Nat) (w : World) (u : Value) (m : List (ByteArray × ByteArray)) : Prop := OwnK 80 encBd 2 B w u m
def QPN (w : World) (e : Ending) (w' : World) : Prop := ∃ u m u2 m2, e = .returned (.tuple #[.agg #[u], .agg #[u2]]) ∧ OwnS w.heap.size w' u m ∧ bulk m ≤ 1000 ∧ OwnS w.heap.size w' u2 m2 ∧ bulk m2 ≤ 1200000 ∧ Below w.heap.size w w'
def QPNB (w : World) (e : Ending) (w' : World) : Prop := ∃ u m u2 m2 x b, e = .returned (.tuple #[.agg #[u], .agg #[u2], x]) ∧ OwnS w.heap.size w' u m ∧ bulk m ≤ 1000 ∧ OwnS w.heap.size w' u2 m2 ∧ bulk m2 ≤ 1200000 ∧ OwnBd w.heap.size w' x b ∧ bulk2 b ≤ 1100 ∧ Below w.heap.size w w'
def QPB (w : World) (e : Ending) (w' : World) : Prop := ∃ u m x b, e = .returned (.tuple #[.agg #[u], x]) ∧ OwnS w.heap.size w' u m ∧ bulk m ≤ 1000 ∧ OwnBd w.heap.size w' x b ∧ bulk2 b ≤ 1100 ∧ Below w.heap.size w w'
def QBS (w : World) (e : Ending) (w' : World) : Prop := ∃ x b, ∃ t : ByteArray, e = .returned (.tuple #[x, .string t]) ∧ OwnBd w.heap.size w' x b ∧ bulk2 b ≤ 1100 ∧ t.size ≤ 2000 ∧ Below w.heap.size w w'
def QT (w : World) (e : Ending) (w' : World) : Prop := ∃ t : ByteArray, e = .returned (.string t) ∧ t.size ≤ 2000 ∧ Below w.heap.size w w'
theorem fmt_sizeP (m : List ByteArray) : (Row.fmtS m).size ≤ bulk m + 1 := by
  unfold Row.fmtS Row.fmtL
  rw [Row.mk_size]
  have := Row.join_size m
  simp; omega
theorem holdsK_keep {α : Type} {enc : α → List Value} {sz p b off n c : Nat} {w w' : World} {l : List α} (h : HoldsK enc sz w (.slice (some ⟨b, off, none⟩) n c) l) (hk : Keep p w w') (hb : b ≠ p) : HoldsK enc sz w' (.slice (some ⟨b, off, none⟩) n c) l := by
  obtain ⟨x, cap, hv, hc, hh⟩ := h
  cases hv
  refine ⟨_, c, rfl, hc, ?_⟩
  rcases hh with h1 | ⟨b', off', hx, h2⟩
  · exact Or.inl h1
  · cases hx
    refine Or.inr ⟨b, off, rfl, fun j hj => ?_⟩
    obtain ⟨u, h3, h4⟩ := h2 j hj
    exact ⟨u, h3, hk.cell h4 hb⟩
theorem apart_blocks {v u : Value} {B : Nat} (h : ∀ q, v.ownBlock = some q → q < B) (h' : ∀ q, u.ownBlock = some q → B ≤ q) : v.ownBlock = none ∨ v.ownBlock ≠ u.ownBlock := by
  cases hv : v.ownBlock with
  | none => exact Or.inl rfl
  | some q => exact Or.inr fun e => by have h1 := h q hv; have h2 := h' q e.symm; omega
theorem nbK {α : Type} {enc : α → List Value} {sz : Nat} {e : TypeId} {B : Nat} {w : World} {v : Value} {l : List α} (h : OwnK e enc sz B w v l) {b : Nat} (hb : b < B) : v.ownBlock = none ∨ v.ownBlock ≠ some b := by
  cases hv : v.ownBlock with
  | none => exact Or.inl rfl
  | some g =>
    have := (h.lt g hv).1
    exact Or.inr (fun e => by cases e; omega)
theorem endTwo {w W : World} {u u2 : Value} {m m2 : List ByteArray} (h1 : NC W w.heap.size (.slice none 0 0)) (h2 : NC W (w.heap.size + 1) (.slice none 0 0)) (ho : OwnS (w.heap.size + 1 + 1) W u m) (ho2 : OwnS (w.heap.size + 1 + 1) W u2 m2) (hb : Below w.heap.size w W) :
    ((W.setCell ⟨w.heap.size, 0, none⟩ u).setCell ⟨w.heap.size + 1, 0, none⟩ u2).cell? ⟨w.heap.size, 0, none⟩ = some u ∧ ((W.setCell ⟨w.heap.size, 0, none⟩ u).setCell ⟨w.heap.size + 1, 0, none⟩ u2).cell? ⟨w.heap.size + 1, 0, none⟩ = some u2 ∧
    OwnS w.heap.size ((W.setCell ⟨w.heap.size, 0, none⟩ u).setCell ⟨w.heap.size + 1, 0, none⟩ u2) u m ∧ OwnS w.heap.size ((W.setCell ⟨w.heap.size, 0, none⟩ u).setCell ⟨w.heap.size + 1, 0, none⟩ u2) u2 m2 ∧ Below w.heap.size w ((W.setCell ⟨w.heap.size, 0, none⟩ u).setCell ⟨w.heap.size + 1, 0, none⟩ u2) ∧
    (∀ x b, OwnBd (w.heap.size + 1 + 1) W x b → OwnBd w.heap.size ((W.setCell ⟨w.heap.size, 0, none⟩ u).setCell ⟨w.heap.size + 1, 0, none⟩ u2) x b) := by
  have g1 := NC.set_same h1 u
  have g2 := h2.other (a := ⟨w.heap.size, 0, none⟩) (by show w.heap.size ≠ w.heap.size + 1; omega) u
  refine ⟨(g1.other (a := ⟨w.heap.size + 1, 0, none⟩) (by show w.heap.size + 1 ≠ w.heap.size; omega) u2).1, Ret.set_same g2.1, ?_, ?_, (hb.setCell (p := ⟨w.heap.size, 0, none⟩) (Nat.le_refl _) _).setCell (p := ⟨w.heap.size + 1, 0, none⟩) (by show w.heap.size ≤ w.heap.size + 1; omega) _, fun x b h => ?_⟩
  · exact ((ho.grown (Ret.grownBy_set _ _ u) (Row.nb ho (b := w.heap.size) (by omega))).grown (Ret.grownBy_set _ _ u2) (Row.nb ho (b := w.heap.size + 1) (by omega))).mono (by omega)
  · exact ((ho2.grown (Ret.grownBy_set _ _ u) (Row.nb ho2 (b := w.heap.size) (by omega))).grown (Ret.grownBy_set _ _ u2) (Row.nb ho2 (b := w.heap.size + 1) (by omega))).mono (by omega)
  · exact ((h.grown (Ret.grownBy_set _ _ u) (nbK h (b := w.heap.size) (by omega))).grown (Ret.grownBy_set _ _ u2) (nbK h (b := w.heap.size + 1) (by omega))).mono (by omega)
theorem endOneB {w W : World} {u : Value} {m : List ByteArray} (h1 : NC W w.heap.size (.slice none 0 0)) (ho : OwnS (w.heap.size + 1) W u m) (hb : Below w.heap.size w W) :
    (W.setCell ⟨w.heap.size, 0, none⟩ u).cell? ⟨w.heap.size, 0, none⟩ = some u ∧ OwnS w.heap.size (W.setCell ⟨w.heap.size, 0, none⟩ u) u m ∧ Below w.heap.size w (W.setCell ⟨w.heap.size, 0, none⟩ u) ∧ (∀ x b, OwnBd (w.heap.size + 1) W x b → OwnBd w.heap.size (W.setCell ⟨w.heap.size, 0, none⟩ u) x b) :=
  ⟨Ret.set_same h1.1, (ho.grown (Ret.grownBy_set _ _ u) (Row.nb ho (b := w.heap.size) (by omega))).mono (by omega), hb.setCell (p := ⟨w.heap.size, 0, none⟩) (Nat.le_refl _) _, fun x b h => (h.grown (Ret.grownBy_set _ _ u) (nbK h (b := w.heap.size) (by omega))).mono (by omega)⟩
/-- append to a slice of structs of the call's own, as a step of a statement that draws its order. -/
theorem step_appK {P : Program} {ops : Array Oper} {o : Oper} {a : Act} {w : World} {K : Act → World → Prop} {Q : Exit → Act → World → Prop} {E : Prop} {α : Type} {enc : α → List Value} {sz : Nat} {e t : TypeId} {bytes : Nat} {z : Value}
    (KD : Row.Kind P e enc z sz bytes) (hg : o.guard = none) (s x : Operand) (hop : o.op = Op.call { callee := Callee.builtin Builtin.append, args := #[s, x], argTypes := #[t, t] }) (ht : P.underlying t = some (.slice e))
    {B : Nat} {v : Value} {ad : Addr} {n c : Nat} {l m : List α} (hs : a.eval s = v) (hx : a.eval x = .slice (some ad) n c) (hown : OwnK e enc sz B w v l) (hsrc : HoldsK enc sz w (.slice (some ad) n c) m) (hlen : (l.length + m.length) * bytes ≤ 140737488355328) (hmx : l.length + m.length ≤ maxLen) (hB : B ≤ w.heap.size)
    (hK : ∀ v' w', OwnK e enc sz B w' v' (l ++ m) → w.grownBy w' v.ownBlock → K (a.put o.dst v') w') :
    if Region.wanted o (yielded ops a.tmps) = true then Oper.wp P o a w K Q else E := by
  have hw : Region.wanted o (yielded ops a.tmps) = true := by simp [Region.wanted, hg]
  rw [if_pos hw]
  obtain ⟨i, h1, h2, h3, h4⟩ := info_parts KD.elem
  obtain rfl := hsrc.lenEq
  obtain ⟨v', w', hrun, r1, r2, _⟩ := run_append_own (P := P) w B t o.type e i z sz bytes ht h1 h2 h3 h4 KD.zs KD.pos v l.length (Row.flat enc l) hown ad m.length c (Row.flat enc m) (Row.flat_length KD.size m) (hsrc.cells KD.size) (Row.flat_one' KD.one m) hmx hlen hB
  unfold Oper.wp
  simp [execOp, hop, resolve, invoke, builtin, hs, hx, hrun, Result.andThen]
  refine hK v' w' ?_ r2
  unfold OwnK
  rw [List.length_append, Row.flat_append]; exact r1

set_option maxHeartbeats 8000000 in
theorem drawParsePattern (w : World) (v : Value) (l : List UInt8) (hb : Frame.Bytes w v l) :
    Calls Try.prog 16 #[v] w (QT w) := by
  have HN := Lib.hid (new w v l hb); clear hb
  go_enter Try.func16, Try.ntmps16
  go_wp2_with fail
  refine HN.out.mono ?_
  rintro e w1 ⟨rfl, hc⟩
  have HD := Lib.hid (once w w.heap.size v l w1 3 hc); clear hc
  go_wp2_with fail
  refine HD.out.mono ?_
  rintro e w2 ⟨y, rfl, ⟨b, rfl⟩, hc, hk⟩
  clear hk HD
  cases b
  · have HD := Lib.hid (l5Any w w.heap.size v l w2 hc); clear hc
    go_wp2_with fail
    refine HD.out.mono ?_
    rintro e w3 ⟨y, rfl, ⟨u, m, rfl, ho, hm⟩, hc, hk⟩
    have HC := Lib.hid hc; have HO := Lib.hid ho; clear hc hk ho HD
    go_wp2_with fail
    refine (Row.specFormatPattern _ m _ HO.out.holds (by omega)).mono ?_
    rintro e w4 ⟨rfl, hb⟩
    have HB := Lib.hid (HC.out.below.trans (hb.mono HC.out.below.size)); clear hb
    have hz := fmt_sizeP m
    go_wp2_with fail
    go_ret
    exact ⟨_, rfl, by omega, HB.out⟩
  · have HD := Lib.hid (strLit2 w w.heap.size v l w2 hc [{ data := #[] }, { data := #[47] }, { data := #[47, 42, 42, 47, 97] }, { data := #[47, 63, 120, 47, 97] }, { data := #[47, 42, 47, 42, 42] }, { data := #[47, 63] }, { data := #[97, 47, 42] }, { data := #[47, 97, 47] }] _ rfl 8 rfl (by decide) (by decide) 20 (by decide)); clear hc
    go_wp2_with fail
    refine HD.out.mono ?_
    rintro e w3 ⟨y, rfl, ⟨t, rfl, ht⟩, hc, hk⟩
    have HC := Lib.hid hc; clear hc hk
    go_wp2_with fail
    go_ret
    exact ⟨_, rfl, by omega, HC.out.below⟩

set_option maxHeartbeats 8000000 in
theorem drawBindingValue (w : World) (v : Value) (l : List UInt8) (hb : Frame.Bytes w v l) :
    Calls Try.prog 22 #[v] w (QBS w) := by
  have HN := Lib.hid (new w v l hb); clear hb
  go_enter Try.func22, Try.ntmps22
  go_wp2_with fail
  refine HN.out.mono ?_
  rintro e w1 ⟨rfl, hc⟩
  have HD := Lib.hid (l5Binds w w.heap.size v l w1 hc)
  have hp1 := hc.lt
  clear hc
  go_wp2_with fail
  refine HD.out.mono ?_
  rintro e w2 ⟨x, rfl, ⟨b, ho, hbz⟩, hc, hk⟩
  have HO := Lib.hid ho
  have HD2 := Lib.hid (strLit2 w w.heap.size v l w2 hc [{ data := #[63, 120] }, { data := #[63, 121] }, { data := #[63, 113] }, { data := #[] }] _ rfl 4 rfl (by decide) (by decide) 20 (by decide))
  clear hc hk ho HD
  go_wp2_with fail
  refine HD2.out.mono ?_
  rintro e w3 ⟨y, rfl, ⟨t, rfl, ht⟩, hc, hk⟩
  have HC := Lib.hid hc
  have HO3 := Lib.hid (kown_keep HO.out hk hp1)
  clear hc hk HD2
  go_wp2_with fail
  go_ret2
  exact ⟨_, b, t, rfl, HO3.out.mono (by omega), by omega, by omega, HC.out.below⟩

set_option maxHeartbeats 8000000 in
theorem drawMatches (w : World) (v : Value) (l : List UInt8) (hb : Frame.Bytes w v l) :
    Calls Try.prog 15 #[v] w (QPN w) := by
  have HAL := Lib.hid (((Below.refl w.heap.size w).alloc (Nat.le_refl _) (.cells #[.slice none 0 0] 26)).alloc (by simp) (.cells #[.slice none 0 0] 27))
  have HR0 := Lib.hid ((NC.new' (w := w) (.slice none 0 0) 26 rfl).alloc (.cells #[.slice none 0 0] 27))
  have HS0 := Lib.hid (NC.new' (w := w.alloc (.cells #[.slice none 0 0] 26)) (.slice none 0 0) 27 (n := w.heap.size + 1) (by simp))
  have HN := Lib.hid (new ((w.alloc (.cells #[.slice none 0 0] 26)).alloc (.cells #[.slice none 0 0] 27)) v l (hb.on HAL.out)); clear hb
  go_enter Try.func15, Try.ntmps15
  go_wp2_with fail
  refine HN.out.mono ?_
  rintro e w1 ⟨rfl, hc⟩
  have HR1 := Lib.hid (HR0.out.on hc.below)
  have HS1 := Lib.hid (HS0.out.on hc.below)
  have hpz := hc.lt
  simp only [World.size_alloc] at hc hpz
  have HD := Lib.hid (l5Pair _ _ v l w1 hc); clear hc
  go_wp2_with fail
  refine HD.out.mono ?_
  rintro e w2 ⟨y, rfl, ⟨u, m, u2, m2, rfl, ho, hm, ho2, hm2⟩, hc, hk⟩
  obtain ⟨x, n, c, rfl, -, -, ho⟩ := ho.shapeN
  obtain ⟨x2, n2, c2, rfl, -, -, ho2⟩ := ho2.shapeN
  have HR2 := Lib.hid (NC.keep HR1.out hk (by omega)); have HS2 := Lib.hid (NC.keep HS1.out hk (by omega))
  have HQ := Lib.hid (endTwo HR2.out HS2.out (ho.mono (by omega)) (ho2.mono (by omega)) (HAL.out.trans (hc.below.mono HAL.out.size)))
  obtain ⟨hr1, hf1⟩ := HR2.out
  obtain ⟨hs1, hg1⟩ := HS2.out
  clear ho ho2 hc hk HD
  go_wp2_with fail
  refine bodyPost_ret (Ret.results_cc rfl _ _ w.heap.size (w.heap.size + 1) [_] [_] rfl rfl Row.aggPt Row.aggN (Ret.one HQ.out.1) (Ret.one HQ.out.2.1)) rfl ?_
  exact ⟨_, m, _, m2, rfl, HQ.out.2.2.1, hm, HQ.out.2.2.2.1, hm2, HQ.out.2.2.2.2.1⟩

set_option maxHeartbeats 8000000 in
theorem drawMatch (w : World) (v : Value) (l : List UInt8) (hb : Frame.Bytes w v l) :
    Calls Try.prog 12 #[v] w (QPNB w) := by
  have HAL := Lib.hid (((Below.refl w.heap.size w).alloc (Nat.le_refl _) (.cells #[.slice none 0 0] 26)).alloc (by simp) (.cells #[.slice none 0 0] 27))
  have HR0 := Lib.hid ((NC.new' (w := w) (.slice none 0 0) 26 rfl).alloc (.cells #[.slice none 0 0] 27))
  have HS0 := Lib.hid (NC.new' (w := w.alloc (.cells #[.slice none 0 0] 26)) (.slice none 0 0) 27 (n := w.heap.size + 1) (by simp))
  have HN := Lib.hid (new ((w.alloc (.cells #[.slice none 0 0] 26)).alloc (.cells #[.slice none 0 0] 27)) v l (hb.on HAL.out)); clear hb
  go_enter Try.func12, Try.ntmps12
  go_wp2_with fail
  refine HN.out.mono ?_
  rintro e w1 ⟨rfl, hc⟩
  have HR1 := Lib.hid (HR0.out.on hc.below)
  have HS1 := Lib.hid (HS0.out.on hc.below)
  have hpz := hc.lt
  simp only [World.size_alloc] at hc hpz
  have HD := Lib.hid (l5Pair _ _ v l w1 hc); clear hc
  go_wp2_with fail
  refine HD.out.mono ?_
  rintro e w2 ⟨y, rfl, ⟨u, m, u2, m2, rfl, ho, hm, ho2, hm2⟩, hc, hk⟩
  obtain ⟨x, n, c, rfl, -, -, ho⟩ := ho.shapeN
  obtain ⟨x2, n2, c2, rfl, -, -, ho2⟩ := ho2.shapeN
  have hz2 := hk.size
  have hal : Below w2.heap.size w2 ((w2.alloc (.cells #[.slice x n c] 26)).alloc (.cells #[.slice x2 n2 c2] 27)) := ((Below.refl _ _).alloc (Nat.le_refl _) _).alloc (by simp) _
  have hdr : Below ((w2.alloc (.cells #[.slice x n c] 26)).alloc (.cells #[.slice x2 n2 c2] 27)).heap.size ((w2.alloc (.cells #[.slice x n c] 26)).alloc (.cells #[.slice x2 n2 c2] 27)) ((w2.alloc (.cells #[.slice x n c] 26)).alloc (.cells #[.slice x2 n2 c2] 27)).drew := (Below.refl _ _).drew
  have HRD := Lib.hid (((NC.keep HR1.out hk (by omega)).on hal).on hdr); have HSD := Lib.hid (((NC.keep HS1.out hk (by omega)).on hal).on hdr)
  have HXD := Lib.hid (((Ret.Box.new' (w := w2) (.slice x n c) 26 rfl).on ((Below.refl _ _).alloc (Nat.le_refl _) _)).on hdr)
  have HYD := Lib.hid ((Ret.Box.new' (w := w2.alloc (.cells #[.slice x n c] 26)) (.slice x2 n2 c2) 27 (n := w2.heap.size + 1) (by simp)).on hdr)
  have HOD := Lib.hid (((ho.mono (show w.heap.size + 1 + 1 ≤ w1.heap.size by omega)).on hal).on hdr); have HPD := Lib.hid (((ho2.mono (show w.heap.size + 1 + 1 ≤ w1.heap.size by omega)).on hal).on hdr)
  have HOD1 := Lib.hid ((ho.on hal).on hdr); have HPD1 := Lib.hid ((ho2.on hal).on hdr)
  have HCD := Lib.hid ((hc.on hal).on hdr)
  have hpx := hc.lt
  obtain ⟨gx, hgx⟩ : ∃ gx, gx = w2.heap.size := ⟨_, rfl⟩
  have HGX := Lib.hid hgx
  clear hal hdr ho ho2 hc hk HD
  go_wp2_with fail
  rw [← hgx] at HXD HYD hz2 hpx ⊢
  have HBW := Lib.hid (show w.heap.size + 1 + 1 ≤ ((w2.alloc (.cells #[.slice x n c] 26)).alloc (.cells #[.slice x2 n2 c2] 27)).drew.heap.size by show _ ≤ ((w2.alloc (.cells #[.slice x n c] 26)).alloc (.cells #[.slice x2 n2 c2] 27)).heap.size; simp; omega)
  clear hgx
  have KS := Lib.hid (show ((w2.alloc (.cells #[.slice x n c] 26)).alloc (.cells #[.slice x2 n2 c2] 27)).drew.cell? ⟨gx, 0, none⟩ = some (.slice x n c) ∧ ((w2.alloc (.cells #[.slice x n c] 26)).alloc (.cells #[.slice x2 n2 c2] 27)).drew.cell? ⟨gx + 1, 0, none⟩ = some (.slice x2 n2 c2) from ⟨HXD.out.cell, HYD.out.cell⟩)
  go_region_held3 (fun w' => w'.cell? ⟨gx, 0, none⟩ = some (.slice x n c) ∧ w'.cell? ⟨gx + 1, 0, none⟩ = some (.slice x2 n2 c2)) (first | exact KS.out | exact hxc5 | exact hxs1 | exact hxs2 | exact hxs3 | exact hxs4) ((go_at_call 51; refine (l5Binds _ (w.heap.size + 1 + 1) v l ((w2.alloc (.cells #[.slice x n c] 26)).alloc (.cells #[.slice x2 n2 c2] 27)).drew HCD.out).mono ?_; rintro e w5 ⟨y, rfl, ⟨b5, ho5, hb5⟩, hc5, hk5⟩; have HR5 := Lib.hid (NC.keep HRD.out hk5 (by omega)); have HS5 := Lib.hid (NC.keep HSD.out hk5 (by omega)); have HX5 := Lib.hid (box_keep HXD.out hk5 (by omega)); have HY5 := Lib.hid (box_keep HYD.out hk5 (by omega)); have hxc5 : w5.cell? ⟨gx, 0, none⟩ = some (.slice x n c) ∧ w5.cell? ⟨gx + 1, 0, none⟩ = some (.slice x2 n2 c2) := ⟨HX5.out.cell, HY5.out.cell⟩; obtain ⟨hr5, hf5⟩ := HR5.out; obtain ⟨hs5, hg5⟩ := HS5.out; have HO5 := Lib.hid ((rown_keep HOD1.out hk5 (by omega)).mono (show w.heap.size + 1 + 1 ≤ w1.heap.size by omega)); have HP5 := Lib.hid ((rown_keep HPD1.out hk5 (by omega)).mono (show w.heap.size + 1 + 1 ≤ w1.heap.size by omega)); have HK5 := Lib.hid (ho5.mono HBW.out); have HB5 := Lib.hid (HAL.out.trans (hc5.below.mono HAL.out.size)); have hxs1 : (w5.setCell ⟨w.heap.size, 0, none⟩ (.slice x n c)).cell? ⟨gx, 0, none⟩ = some (.slice x n c) ∧ (w5.setCell ⟨w.heap.size, 0, none⟩ (.slice x n c)).cell? ⟨gx + 1, 0, none⟩ = some (.slice x2 n2 c2) := ⟨(HX5.out.grown (Ret.grownBy_set _ ⟨w.heap.size, 0, none⟩ (.slice x n c)) (fun e => by have h9 : gx = w.heap.size := (Option.some.inj e); omega)).cell, (HY5.out.grown (Ret.grownBy_set _ ⟨w.heap.size, 0, none⟩ (.slice x n c)) (fun e => by have h9 : gx + 1 = w.heap.size := (Option.some.inj e); omega)).cell⟩; have hxs2 : ((w5.setCell ⟨w.heap.size, 0, none⟩ (.slice x n c)).setCell ⟨w.heap.size + 1, 0, none⟩ (.slice x2 n2 c2)).cell? ⟨gx, 0, none⟩ = some (.slice x n c) ∧ ((w5.setCell ⟨w.heap.size, 0, none⟩ (.slice x n c)).setCell ⟨w.heap.size + 1, 0, none⟩ (.slice x2 n2 c2)).cell? ⟨gx + 1, 0, none⟩ = some (.slice x2 n2 c2) := ⟨((HX5.out.grown (Ret.grownBy_set _ ⟨w.heap.size, 0, none⟩ (.slice x n c)) (fun e => by have h9 : gx = w.heap.size := (Option.some.inj e); omega)).grown (Ret.grownBy_set _ ⟨w.heap.size + 1, 0, none⟩ (.slice x2 n2 c2)) (fun e => by have h9 : gx = w.heap.size + 1 := (Option.some.inj e); omega)).cell, ((HY5.out.grown (Ret.grownBy_set _ ⟨w.heap.size, 0, none⟩ (.slice x n c)) (fun e => by have h9 : gx + 1 = w.heap.size := (Option.some.inj e); omega)).grown (Ret.grownBy_set _ ⟨w.heap.size + 1, 0, none⟩ (.slice x2 n2 c2)) (fun e => by have h9 : gx + 1 = w.heap.size + 1 := (Option.some.inj e); omega)).cell⟩; have hxs3 : (w5.setCell ⟨w.heap.size + 1, 0, none⟩ (.slice x2 n2 c2)).cell? ⟨gx, 0, none⟩ = some (.slice x n c) ∧ (w5.setCell ⟨w.heap.size + 1, 0, none⟩ (.slice x2 n2 c2)).cell? ⟨gx + 1, 0, none⟩ = some (.slice x2 n2 c2) := ⟨(HX5.out.grown (Ret.grownBy_set _ ⟨w.heap.size + 1, 0, none⟩ (.slice x2 n2 c2)) (fun e => by have h9 : gx = w.heap.size + 1 := (Option.some.inj e); omega)).cell, (HY5.out.grown (Ret.grownBy_set _ ⟨w.heap.size + 1, 0, none⟩ (.slice x2 n2 c2)) (fun e => by have h9 : gx + 1 = w.heap.size + 1 := (Option.some.inj e); omega)).cell⟩; have hxs4 : ((w5.setCell ⟨w.heap.size + 1, 0, none⟩ (.slice x2 n2 c2)).setCell ⟨w.heap.size, 0, none⟩ (.slice x n c)).cell? ⟨gx, 0, none⟩ = some (.slice x n c) ∧ ((w5.setCell ⟨w.heap.size + 1, 0, none⟩ (.slice x2 n2 c2)).setCell ⟨w.heap.size, 0, none⟩ (.slice x n c)).cell? ⟨gx + 1, 0, none⟩ = some (.slice x2 n2 c2) := ⟨((HX5.out.grown (Ret.grownBy_set _ ⟨w.heap.size + 1, 0, none⟩ (.slice x2 n2 c2)) (fun e => by have h9 : gx = w.heap.size + 1 := (Option.some.inj e); omega)).grown (Ret.grownBy_set _ ⟨w.heap.size, 0, none⟩ (.slice x n c)) (fun e => by have h9 : gx = w.heap.size := (Option.some.inj e); omega)).cell, ((HY5.out.grown (Ret.grownBy_set _ ⟨w.heap.size + 1, 0, none⟩ (.slice x2 n2 c2)) (fun e => by have h9 : gx + 1 = w.heap.size + 1 := (Option.some.inj e); omega)).grown (Ret.grownBy_set _ ⟨w.heap.size, 0, none⟩ (.slice x n c)) (fun e => by have h9 : gx + 1 = w.heap.size := (Option.some.inj e); omega)).cell⟩; clear hc5 hk5 ho5))
  have HQ := Lib.hid (endTwo HR5.out HS5.out HO5.out HP5.out HB5.out)
  clear hxc5 hxs1 hxs2 hxs3 hxs4
  go_wp2_with fail
  refine bodyPost_ret (Ret.results_cct rfl _ _ w.heap.size (w.heap.size + 1) [_] [_] rfl rfl Row.aggPt Row.aggN (Ret.one HQ.out.1) (Ret.one HQ.out.2.1)) rfl ?_
  exact ⟨_, m, _, m2, _, b5, rfl, HQ.out.2.2.1, hm, HQ.out.2.2.2.1, hm2, HQ.out.2.2.2.2.2 _ _ HK5.out, by omega, HQ.out.2.2.2.2.1⟩

set_option maxHeartbeats 8000000 in
theorem drawInstantiate (w : World) (v : Value) (l : List UInt8) (hb : Frame.Bytes w v l) :
    Calls Try.prog 19 #[v] w (QPB w) := by
  have HAL := Lib.hid ((Below.refl w.heap.size w).alloc (Nat.le_refl _) (.cells #[.slice none 0 0] 26))
  have HR0 := Lib.hid (NC.new' (w := w) (.slice none 0 0) 26 rfl)
  have HN := Lib.hid (new (w.alloc (.cells #[.slice none 0 0] 26)) v l (hb.on HAL.out)); clear hb
  go_enter Try.func19, Try.ntmps19
  go_wp2_with fail
  refine HN.out.mono ?_
  rintro e w1 ⟨rfl, hc⟩
  have HR1 := Lib.hid (HR0.out.on hc.below)
  have hpz := hc.lt
  simp only [World.size_alloc] at hc hpz
  have HD := Lib.hid (l5Any _ _ v l w1 hc); clear hc
  go_wp2_with fail
  refine HD.out.mono ?_
  rintro e w2 ⟨y, rfl, ⟨u, m, rfl, ho, hm⟩, hc, hk⟩
  obtain ⟨x, n, c, rfl, -, -, ho⟩ := ho.shapeN
  have hz2 := hk.size
  have hal : Below w2.heap.size w2 (w2.alloc (.cells #[.slice x n c] 26)) := (Below.refl _ _).alloc (Nat.le_refl _) _
  have hdr : Below (w2.alloc (.cells #[.slice x n c] 26)).heap.size (w2.alloc (.cells #[.slice x n c] 26)) (w2.alloc (.cells #[.slice x n c] 26)).drew := (Below.refl _ _).drew
  have HRD := Lib.hid (((NC.keep HR1.out hk (by omega)).on hal).on hdr)
  have HXE := Lib.hid (Ret.Box.new' (w := w2) (.slice x n c) 26 rfl)
  have HXD := Lib.hid (HXE.out.on hdr)
  have HOD1 := Lib.hid ((ho.on hal).on hdr)
  have HCD := Lib.hid ((hc.on hal).on hdr)
  have hal2 : Below (w2.alloc (.cells #[.slice x n c] 26)).heap.size (w2.alloc (.cells #[.slice x n c] 26)) ((w2.alloc (.cells #[.slice x n c] 26)).alloc (.cells #[.string { data := #[63, 120] }, .string { data := #[113] }] 80)).drew := ((Below.refl _ _).alloc (Nat.le_refl _) _).drew
  have HRD2 := Lib.hid (((NC.keep HR1.out hk (by omega)).on hal).on hal2)
  have HXD2 := Lib.hid (HXE.out.on hal2)
  have HOD2 := Lib.hid ((ho.on hal).on hal2)
  have HCD2 := Lib.hid ((hc.on hal).on hal2)
  have HSR2 : Hid (HoldsK encBd 2 ((w2.alloc (.cells #[.slice x n c] 26)).alloc (.cells #[.string { data := #[63, 120] }, .string { data := #[113] }] 80)).drew (.slice (some ⟨w2.heap.size + 1, 0, none⟩) 1 1) [({ data := #[63, 120] }, { data := #[113] })]) := Lib.hid ((show HoldsK encBd 2 ((w2.alloc (.cells #[.slice x n c] 26)).alloc (.cells #[.string { data := #[63, 120] }, .string { data := #[113] }] 80)) (.slice (some ⟨w2.heap.size + 1, 0, none⟩) 1 1) [({ data := #[63, 120] }, { data := #[113] })] by have h9 := Row.holdsK_one szBd 80 (w2.alloc (.cells #[.slice x n c] 26)) ({ data := #[63, 120] }, { data := #[113] }); rw [World.size_alloc] at h9; exact h9).on (Below.refl _ _).drew)
  have hpx := hc.lt
  have HW2 := Lib.hid (show w.heap.size + 1 < w2.heap.size + 1 from by omega)
  obtain ⟨gx, hgx⟩ : ∃ gx, gx = w2.heap.size := ⟨_, rfl⟩
  clear hal hal2 hdr ho hc hk HD
  go_wp2_with fail
  rw [← hgx] at HXD HXD2 HXE hz2 hpx ⊢
  have HBW := Lib.hid (show w.heap.size + 1 ≤ (w2.alloc (.cells #[.slice x n c] 26)).drew.heap.size by show _ ≤ (w2.alloc (.cells #[.slice x n c] 26)).heap.size; simp; omega)
  have HBW2 := Lib.hid (show w.heap.size + 1 ≤ ((w2.alloc (.cells #[.slice x n c] 26)).alloc (.cells #[.string { data := #[63, 120] }, .string { data := #[113] }] 80)).drew.heap.size by show _ ≤ ((w2.alloc (.cells #[.slice x n c] 26)).alloc (.cells #[.string { data := #[63, 120] }, .string { data := #[113] }] 80)).heap.size; simp; omega)
  clear hgx
  have hxe := HXE.out.cell
  have hxd := HXD.out.cell
  have hxd2 := HXD2.out.cell
  have hxe2 : ((w2.alloc (.cells #[.slice x n c] 26)).alloc (.cells #[.string { data := #[63, 120] }, .string { data := #[113] }] 80)).cell? ⟨gx, 0, none⟩ = some (.slice x n c) := HXD2.out.cell
  go_region_law (first | (refine step_appK kindBd (B := w.heap.size + 1) (l := b5) (m := [({ data := #[63, 120] }, { data := #[113] })]) rfl _ _ (by rfl) Try.underlying28 (by rfl) (by rfl) HK5A.out (Row.holdsK_one szBd 80 w5 ({ data := #[63, 120] }, { data := #[113] })) HLM.out HLX.out hB5 ?_; intro v6 w6 ho6 hg6; obtain ⟨x6, n6, c6, rfl, -, -, ho6⟩ := ho6.shapeN; have HO6 := Lib.hid ho6; have HG6 := Lib.hid hg6; have HX6 := Lib.hid ((HX5.out.on ((Below.refl _ _).alloc (Nat.le_refl _) (.cells #[.string { data := #[63, 120] }, .string { data := #[113] }] 80))).grown hg6 (Row.OwnK.notBox HK5A.out (HX5.out.on ((Below.refl _ _).alloc (Nat.le_refl _) (.cells #[.string { data := #[63, 120] }, .string { data := #[113] }] 80))) (by decide))); have hx6 := HX6.out.cell; have HR6 := Lib.hid ((HR5.out.alloc (.cells #[.string { data := #[63, 120] }, .string { data := #[113] }] 80)).grown hg6 (fun e => by have := (HK5A.out.lt _ e.symm).1; omega)); obtain ⟨hr6, hf6⟩ := HR6.out; have hal5 : Below w5.heap.size w5 (w5.alloc (.cells #[.string { data := #[63, 120] }, .string { data := #[113] }] 80)) := (Below.refl _ _).alloc (Nat.le_refl _) _; have HB6 := Lib.hid ((HB5.out.trans (hal5.mono HB5.out.size)).grown hg6 (by have := hB5; omega) (fun q hq => by have := (HK5A.out.lt q hq).1; omega)); have HO6P := Lib.hid ((HO5.out.on hal5).grown hg6 (HOW.out _ HK5A.out)); clear ho6 hg6 hal5) | (refine step_appK kindBd (B := w.heap.size + 1) (l := b5) (m := [({ data := #[63, 120] }, { data := #[113] })]) rfl _ _ (by rfl) Try.underlying28 (by rfl) (by rfl) HK5.out HSRC.out HLM.out HLX.out hB5 ?_; intro v6 w6 ho6 hg6; obtain ⟨x6, n6, c6, rfl, -, -, ho6⟩ := ho6.shapeN; have HO6 := Lib.hid ho6; have HG6 := Lib.hid hg6; have HX6 := Lib.hid (HX5.out.grown hg6 (Row.OwnK.notBox HK5.out HX5.out (by decide))); have hx6 := HX6.out.cell; have HR6 := Lib.hid (HR5.out.grown hg6 (fun e => by have := (HK5.out.lt _ e.symm).1; omega)); obtain ⟨hr6, hf6⟩ := HR6.out; have HB6 := Lib.hid (HB5.out.grown hg6 (by have := hB5; omega) (fun q hq => by have := (HK5.out.lt q hq).1; omega)); have HO6P := Lib.hid (HO5.out.grown hg6 (HOW.out _ HK5.out)); clear ho6 hg6) | (go_simp; go_at_call 51; refine (l5Binds _ (w.heap.size + 1) v l (w2.alloc (.cells #[.slice x n c] 26)).drew HCD.out).mono ?_; rintro e w5 ⟨y, rfl, ⟨b5, ho5, hb5⟩, hc5, hk5⟩; obtain ⟨x5, n5, c5, rfl, -, -, ho5⟩ := ho5.shapeN; have HR5 := Lib.hid (NC.keep HRD.out hk5 (by omega)); have HX5 := Lib.hid (box_keep HXD.out hk5 (by omega)); have hxc5 := HX5.out.cell; have hxa5 := (HX5.out.on ((Below.refl _ _).alloc (Nat.le_refl _) (.cells #[.string { data := #[63, 120] }, .string { data := #[113] }] 80))).cell; have HO5 := Lib.hid ((rown_keep HOD1.out hk5 (by omega)).mono (show w.heap.size + 1 ≤ w1.heap.size by omega)); have HOQ5 := Lib.hid (rown_keep HOD1.out hk5 (by omega)); have HK5 := Lib.hid (ho5.mono HBW.out); have HOW : Hid (∀ (W : World), OwnBd (w.heap.size + 1) W (.slice x5 n5 c5) b5 → (Value.slice x n c).ownBlock = none ∨ (Value.slice x n c).ownBlock ≠ (Value.slice x5 n5 c5).ownBlock) := Lib.hid (fun W _ => apart_blocks (fun q hq => (HOD1.out.lt q hq).2) (fun q hq => (ho5.lt q hq).1)); have HK5A := Lib.hid (HK5.out.on ((Below.refl _ _).alloc (Nat.le_refl _) (.cells #[.string { data := #[63, 120] }, .string { data := #[113] }] 80))); have HB5 := Lib.hid (HAL.out.trans (hc5.below.mono HAL.out.size)); have HLM := Lib.hid (show (b5.length + 1) * 32 ≤ 140737488355328 by have := Row.bulk2_len b5; omega); have HLX := Lib.hid (show b5.length + 1 ≤ maxLen by have := Row.bulk2_len b5; unfold maxLen; omega); have hB5 : w.heap.size + 1 ≤ (w5.alloc (.cells #[.string { data := #[63, 120] }, .string { data := #[113] }] 80)).heap.size := (by have := HX5.out.lt; simp; omega); clear hc5 hk5 ho5) | (go_simp; go_at_call 51; refine (l5Binds _ (w.heap.size + 1) v l ((w2.alloc (.cells #[.slice x n c] 26)).alloc (.cells #[.string { data := #[63, 120] }, .string { data := #[113] }] 80)).drew HCD2.out).mono ?_; rintro e w5 ⟨y, rfl, ⟨b5, ho5, hb5⟩, hc5, hk5⟩; obtain ⟨x5, n5, c5, rfl, -, -, ho5⟩ := ho5.shapeN; have HR5 := Lib.hid (NC.keep HRD2.out hk5 (by omega)); have HX5 := Lib.hid (box_keep HXD2.out hk5 (by omega)); have hxc5 := HX5.out.cell; have HSRC := Lib.hid (holdsK_keep HSR2.out hk5 (by have := HW2.out; omega)); have HO5 := Lib.hid ((rown_keep HOD2.out hk5 (by omega)).mono (show w.heap.size + 1 ≤ w1.heap.size by omega)); have HOQ5 := Lib.hid (rown_keep HOD2.out hk5 (by omega)); have HK5 := Lib.hid (ho5.mono HBW2.out); have HOW : Hid (∀ (W : World), OwnBd (w.heap.size + 1) W (.slice x5 n5 c5) b5 → (Value.slice x n c).ownBlock = none ∨ (Value.slice x n c).ownBlock ≠ (Value.slice x5 n5 c5).ownBlock) := Lib.hid (fun W _ => apart_blocks (fun q hq => (HOD2.out.lt q hq).2) (fun q hq => (ho5.lt q hq).1)); have HB5 := Lib.hid (HAL.out.trans (hc5.below.mono HAL.out.size)); have HLM := Lib.hid (show (b5.length + 1) * 32 ≤ 140737488355328 by have := Row.bulk2_len b5; omega); have HLX := Lib.hid (show b5.length + 1 ≤ maxLen by have := Row.bulk2_len b5; unfold maxLen; omega); have hB5 : w.heap.size + 1 ≤ w5.heap.size := (by have := HX5.out.lt; omega); clear hc5 hk5 ho5))
  all_goals
    have HQ := Lib.hid (endOneB HR6.out HO6P.out HB6.out)
    have HZ6 : bulk2 (b5 ++ [({ data := #[63, 120] }, { data := #[113] })]) ≤ 1100 := by rw [bulk2_append, bulk2_one]; have : ({ data := #[63, 120] } : ByteArray).size = 2 := rfl; have : ({ data := #[113] } : ByteArray).size = 1 := rfl; omega
    clear hxe hxd hxc5 hx6 hxd2 hxe2
    try clear hxa5
    go_wp2_with fail
    refine bodyPost_ret (Ret.results_ct rfl _ _ w.heap.size [_] rfl Row.aggPt (Ret.one HQ.out.1)) rfl ?_
    exact ⟨_, m, _, _, rfl, HQ.out.2.1, hm, HQ.out.2.2.2 _ _ HO6.out, HZ6, HQ.out.2.2.1⟩

end Go.Proofs.Ytoibmgnmnmeklaa.Draw
