/- Contracts of the reference model's draws of chapter 4: names, right and wrong, and texts. What was in memory stays as it was. -/
import Derived.Test.YtnhfdgjbbjogmaaDrawAny
namespace Go.Proofs.Ytnhfdgjbbjogmaa.Draw
open Go.ChangeShapes Go.WideShapes Go.ChangeAt Go.RowKit Go.Instr
open Go.Proofs.Ytnhfdgjbbjogmaa.Row (bulk bulk_append bulk_one bulk_nil elemSTR oneStr)
open Go.Proofs.Ytnhfdgjbbjogmaa.Ret (NC)
set_option linter.unusedVariables false

abbrev OwnN (B : Nat) (w : World) (u : Value) (m : List ByteArray) : Prop := Row.Own 9 Value.string B w u m
def QN (w : World) (e : Ending) (w' : World) : Prop := ∃ u m, e = .returned (.agg #[u]) ∧ OwnN w.heap.size w' u m ∧ bulk m ≤ 1000 ∧ Below w.heap.size w w'
def QNN (w : World) (e : Ending) (w' : World) : Prop := ∃ u m u2 m2, e = .returned (.tuple #[.agg #[u], .agg #[u2]]) ∧ OwnN w.heap.size w' u m ∧ bulk m ≤ 1000 ∧ OwnN w.heap.size w' u2 m2 ∧ bulk m2 ≤ 1000 ∧ Below w.heap.size w w'
def QNi (w : World) (e : Ending) (w' : World) : Prop := ∃ u m, ∃ k : Int, e = .returned (.tuple #[.agg #[u], .int .i64 k]) ∧ OwnN w.heap.size w' u m ∧ bulk m ≤ 1000 ∧ -2 ≤ k ∧ k ≤ 6 ∧ Below w.heap.size w w'
def QNs (w : World) (e : Ending) (w' : World) : Prop := ∃ u m, ∃ t : ByteArray, e = .returned (.tuple #[.agg #[u], .string t]) ∧ OwnN w.heap.size w' u m ∧ bulk m ≤ 1000 ∧ t.size ≤ 2000 ∧ Below w.heap.size w w'
def QS (w : World) (e : Ending) (w' : World) : Prop := ∃ t : ByteArray, e = .returned (.string t) ∧ t.size ≤ 2000 ∧ Below w.heap.size w w'
theorem ret_ni {v : Value} {a b : Int} (h : a = b) : Ending.returned (.tuple #[v, .int .i64 a]) = .returned (.tuple #[v, .int .i64 b]) := by rw [h]
theorem bulk_sub {l : List ByteArray} (k : Nat) : bulk (l.take k) ≤ bulk l := by
  have := bulk_append (l.take k) (l.drop k)
  rw [List.take_append_drop] at this
  omega
theorem fmt_size (m : List ByteArray) : (Row.fmtS m).size ≤ bulk m + 1 := by
  unfold Row.fmtS Row.fmtL
  rw [Row.mk_size]
  have := Row.join_size m
  simp; omega

set_option maxRecDepth 100000 in
set_option maxHeartbeats 4000000 in
theorem drawValidPart (w : World) (v : Value) (l : List UInt8) (hb : Frame.Bytes w v l) :
    Calls Try.prog 22 #[v] w (QS w) := by
  have HN := Lib.hid (new w v l hb); clear hb
  go_enter Try.func22, Try.ntmps22
  go_wp2_with fail
  refine HN.out.mono ?_
  rintro e w1 ⟨rfl, hc⟩
  have HD := Lib.hid (strLit2 w w.heap.size v l w1 hc [{ data := #[97] }, { data := #[122, 57, 45] }, { data := #[] }, { data := #[65] }, { data := #[101, 105, 103, 104, 116, 56, 56, 56] }, { data := #[110, 105, 110, 101, 57, 57, 57, 57, 57] }, { data := #[97, 32, 98] }, { data := #[47] }, { data := #[126] }] _ rfl 9 rfl (by decide) (by decide) 20 (by decide)); clear hc
  go_wp2_with fail
  refine HD.out.mono ?_
  rintro e w2 ⟨y, rfl, ⟨t, rfl, ht⟩, hc, hk⟩
  have HC := Lib.hid hc; clear hc hk
  go_wp2_with fail
  go_ret
  exact ⟨_, rfl, by omega, HC.out.below⟩

set_option maxRecDepth 100000 in
set_option maxHeartbeats 4000000 in
theorem drawParseName (w : World) (v : Value) (l : List UInt8) (hb : Frame.Bytes w v l) :
    Calls Try.prog 16 #[v] w (QS w) := by
  have HN := Lib.hid (new w v l hb); clear hb
  go_enter Try.func16, Try.ntmps16
  go_wp2_with fail
  refine HN.out.mono ?_
  rintro e w1 ⟨rfl, hc⟩
  have HD := Lib.hid (once w w.heap.size v l w1 3 hc); clear hc
  go_wp2_with fail
  refine HD.out.mono ?_
  rintro e w2 ⟨y, rfl, ⟨b, rfl⟩, hc, hk⟩
  clear hk HD
  cases b
  · have HD := Lib.hid (l4Any w w.heap.size v l w2 hc); clear hc
    go_wp2_with fail
    refine HD.out.mono ?_
    rintro e w3 ⟨y, rfl, ⟨u, m, rfl, ho, hm⟩, hc, hk⟩
    have HC := Lib.hid hc; have HO := Lib.hid ho; clear hc hk ho HD
    go_wp2_with fail
    refine (Row.specFormatName _ m _ HO.out.holds (by omega)).mono ?_
    rintro e w4 ⟨rfl, hb⟩
    have HB := Lib.hid (HC.out.below.trans (hb.mono HC.out.below.size)); clear hb
    have hz := fmt_size m
    go_wp2_with fail
    go_ret
    exact ⟨_, rfl, by omega, HB.out⟩
  · have HD := Lib.hid (strLit2 w w.heap.size v l w2 hc [{ data := #[] }, { data := #[47] }, { data := #[47, 47] }, { data := #[97] }, { data := #[47, 97, 47] }, { data := #[47, 97, 47, 47, 98] }, { data := #[47, 65] }, { data := #[47, 97, 47, 98] }, { data := #[47, 97, 47, 98, 47, 99, 47, 100, 47, 101, 47, 102, 47, 103] }] _ rfl 9 rfl (by decide) (by decide) 20 (by decide)); clear hc
    go_wp2_with fail
    refine HD.out.mono ?_
    rintro e w3 ⟨y, rfl, ⟨t, rfl, ht⟩, hc, hk⟩
    have HC := Lib.hid hc; clear hc hk
    go_wp2_with fail
    go_ret
    exact ⟨_, rfl, by omega, HC.out.below⟩

set_option maxRecDepth 100000 in
set_option maxHeartbeats 4000000 in
theorem drawFormatName (w : World) (v : Value) (l : List UInt8) (hb : Frame.Bytes w v l) :
    Calls Try.prog 15 #[v] w (QN w) := by
  have hal : Below w.heap.size w (w.alloc (.cells #[.slice none 0 0] 26)) := (Below.refl _ _).alloc (Nat.le_refl _) _
  have HAL := Lib.hid hal
  have HR0 := Lib.hid (NC.new' (w := w) (.slice none 0 0) 26 rfl)
  have HN := Lib.hid (new (w.alloc (.cells #[.slice none 0 0] 26)) v l (hb.on hal)); clear hb hal
  go_enter Try.func15, Try.ntmps15
  go_wp2_with fail
  refine HN.out.mono ?_
  rintro e w1 ⟨rfl, hc⟩
  have HR1 := Lib.hid (HR0.out.on hc.below)
  have hpz := hc.lt
  simp only [World.size_alloc] at hc hpz
  have HB1 := Lib.hid (HAL.out.trans (hc.below.mono HAL.out.size))
  have HD := Lib.hid (l4Any _ _ v l w1 hc); clear hc
  go_wp2_with fail
  refine HD.out.mono ?_
  rintro e w2 ⟨y, rfl, ⟨u, m, rfl, ho, hm⟩, hc, hk⟩
  obtain ⟨x, n, c, rfl, -, -, ho⟩ := ho.shapeN
  have HB2 := Lib.hid (HAL.out.trans (hc.below.mono HAL.out.size))
  obtain ⟨hk2, hf2⟩ := NC.keep HR1.out hk (by omega)
  obtain ⟨q1, q2, q3⟩ := Row.endN (w := w) (g := w.heap.size) (Nat.le_refl _) (by omega) ho hk2 HB2.out
  have HQ1 := Lib.hid q1; have HQ2 := Lib.hid q2; have HQ3 := Lib.hid q3
  clear q1 q2 q3 ho hc hk HD
  go_wp2
  refine bodyPost_ret (Ret.results_c rfl _ _ w.heap.size [_] rfl Row.aggN (Ret.one HQ1.out)) rfl ?_
  exact ⟨_, m, rfl, HQ2.out, hm, HQ3.out⟩

set_option maxRecDepth 100000 in
set_option maxHeartbeats 4000000 in
theorem drawTruncate (w : World) (v : Value) (l : List UInt8) (hb : Frame.Bytes w v l) :
    Calls Try.prog 21 #[v] w (QNi w) := by
  have hal : Below w.heap.size w (w.alloc (.cells #[.slice none 0 0] 26)) := (Below.refl _ _).alloc (Nat.le_refl _) _
  have HAL := Lib.hid hal
  have HR0 := Lib.hid (NC.new' (w := w) (.slice none 0 0) 26 rfl)
  have HN := Lib.hid (new (w.alloc (.cells #[.slice none 0 0] 26)) v l (hb.on hal)); clear hb hal
  go_enter Try.func21, Try.ntmps21
  go_wp2_with fail
  refine HN.out.mono ?_
  rintro e w1 ⟨rfl, hc⟩
  have HR1 := Lib.hid (HR0.out.on hc.below)
  have hpz := hc.lt
  simp only [World.size_alloc] at hc hpz
  have HB1 := Lib.hid (HAL.out.trans (hc.below.mono HAL.out.size))
  have HD := Lib.hid (l4Any _ _ v l w1 hc); clear hc
  go_wp2_with fail
  refine HD.out.mono ?_
  rintro e w2 ⟨y, rfl, ⟨u, m, rfl, ho, hm⟩, hc, hk⟩
  obtain ⟨x, n, c, rfl, -, -, ho⟩ := ho.shapeN
  have hal : Below w2.heap.size w2 (w2.alloc (.cells #[.slice x n c] 26)) := (Below.refl _ _).alloc (Nat.le_refl _) _
  have hdr : Below (w2.alloc (.cells #[.slice x n c] 26)).heap.size (w2.alloc (.cells #[.slice x n c] 26)) (w2.alloc (.cells #[.slice x n c] 26)).drew := (Below.refl _ _).drew
  have hkz := hk.size
  have HRD := Lib.hid (((NC.keep HR1.out hk (by omega)).on hal).on hdr)
  have HXD := Lib.hid ((Ret.Box.new w2 (.slice x n c) 26).on hdr)
  have HOD := Lib.hid ((ho.on hal).on hdr)
  have HCD := Lib.hid ((hc.on hal).on hdr)
  clear hal hdr hc hk ho HD
  go_wp2_with fail
  go_region_held3 (fun w' => w'.cell? ⟨w2.heap.size, 0, none⟩ = some (.slice x n c)) (first | exact HXD.out.cell | exact hxc3 | exact hxc4) ((go_at_call 54; refine (below _ (w.heap.size + 1) v l (w2.alloc (.cells #[.slice x n c] 26)).drew 9 HCD.out).mono ?_; rintro e w3 ⟨y, rfl, ⟨q, rfl, hq, hq2⟩, hc3, hk3⟩; have HR3 := Lib.hid (NC.keep HRD.out hk3 (by omega)); have hxc3 := (box_keep HXD.out hk3 (by omega)).cell; obtain ⟨hr3, hf3⟩ := HR3.out; have HO3 := Lib.hid (rown_keep HOD.out hk3 (by omega)); have HB3 := Lib.hid (HAL.out.trans (hc3.below.mono HAL.out.size)); have hxc4 := ((box_keep HXD.out hk3 (by omega)).grown (Ret.grownBy_set w3 ⟨w.heap.size, 0, none⟩ (.slice x n c)) (fun e => by have h9 : w2.heap.size = w.heap.size := (Option.some.inj e); omega)).cell; clear hc3 hk3))
  have hq := hq (by omega)
  obtain ⟨q0, q1⟩ := hq
  obtain ⟨z1, z2, z3⟩ := Row.endN (w := w) (g := w.heap.size) (Nat.le_refl _) (by omega) HO3.out hr3 HB3.out
  have HQ1 := Lib.hid z1; have HQ2 := Lib.hid z2; have HQ3 := Lib.hid z3
  have hw := show IntKind.i64.wrap (q - 2) = q - 2 by rw [IntKind.wrap_i64]; omega
  have HW := Lib.hid hw
  clear z1 z2 z3 hxc3 hxc4 hw
  go_wp2_with fail
  refine bodyPost_ret (Ret.results_ct rfl _ _ w.heap.size [_] rfl Row.aggN (Ret.one HQ1.out)) rfl ?_
  exact ⟨_, m, q - 2, ret_ni HW.out, HQ2.out, hm, by omega, by omega, HQ3.out⟩

set_option maxRecDepth 100000 in
set_option maxHeartbeats 4000000 in
theorem drawAppendPart (w : World) (v : Value) (l : List UInt8) (hb : Frame.Bytes w v l) :
    Calls Try.prog 36 #[v] w (QNs w) := by
  have hal : Below w.heap.size w (w.alloc (.cells #[.slice none 0 0] 26)) := (Below.refl _ _).alloc (Nat.le_refl _) _
  have HAL := Lib.hid hal
  have HR0 := Lib.hid (NC.new' (w := w) (.slice none 0 0) 26 rfl)
  have HN := Lib.hid (new (w.alloc (.cells #[.slice none 0 0] 26)) v l (hb.on hal)); clear hb hal
  go_enter Try.func36, Try.ntmps36
  go_wp2_with fail
  refine HN.out.mono ?_
  rintro e w1 ⟨rfl, hc⟩
  have HR1 := Lib.hid (HR0.out.on hc.below)
  have hpz := hc.lt
  simp only [World.size_alloc] at hc hpz
  have HB1 := Lib.hid (HAL.out.trans (hc.below.mono HAL.out.size))
  have HD := Lib.hid (l4Any _ _ v l w1 hc); clear hc
  go_wp2_with fail
  refine HD.out.mono ?_
  rintro e w2 ⟨y, rfl, ⟨u, m, rfl, ho, hm⟩, hc, hk⟩
  obtain ⟨x, n, c, rfl, -, -, ho⟩ := ho.shapeN
  have hal : Below w2.heap.size w2 (w2.alloc (.cells #[.slice x n c] 26)) := (Below.refl _ _).alloc (Nat.le_refl _) _
  have hal2 : Below (w2.alloc (.cells #[.slice x n c] 26)).heap.size (w2.alloc (.cells #[.slice x n c] 26)) ((w2.alloc (.cells #[.slice x n c] 26)).alloc (.cells #[.string { data := #[97] }, .string { data := #[] }, .string { data := #[90] }, .string { data := #[115, 101, 103, 45, 49] }] 9)).drew := ((Below.refl _ _).alloc (Nat.le_refl _) _).drew
  have hkz := hk.size
  have HRD := Lib.hid (((NC.keep HR1.out hk (by omega)).on hal).on hal2)
  have HXD := Lib.hid ((Ret.Box.new w2 (.slice x n c) 26).on hal2)
  have HXE := Lib.hid ((Ret.Box.new w2 (.slice x n c) 26).on (Below.refl _ _).drew)
  have HOD := Lib.hid ((ho.on hal).on hal2)
  have HCD := Lib.hid ((hc.on hal).on hal2)
  clear hal hal2 hc hk ho HD
  go_wp2_with fail
  go_region_held3 (fun w' => w'.cell? ⟨w2.heap.size, 0, none⟩ = some (.slice x n c)) (first | exact HXE.out.cell | exact HXD.out.cell | exact hxc3 | exact hxc4) ((go_at_call 49; refine (strAt _ (w.heap.size + 1) v l ((w2.alloc (.cells #[.slice x n c] 26)).alloc (.cells #[.string { data := #[97] }, .string { data := #[] }, .string { data := #[90] }, .string { data := #[115, 101, 103, 45, 49] }] 9)).drew HCD.out (w2.heap.size + 1) (by omega) [{ data := #[97] }, { data := #[] }, { data := #[90] }, { data := #[115, 101, 103, 45, 49] }] 4 rfl (by decide) (by decide) 20 (by decide) (fun j h => lits_at (by simp) rfl j h)).mono ?_; rintro e w3 ⟨y, rfl, ⟨t, rfl, ht⟩, hc3, hk3⟩; have HR3 := Lib.hid (NC.keep HRD.out hk3 (by omega)); have hxc3 := (box_keep HXD.out hk3 (by omega)).cell; obtain ⟨hr3, hf3⟩ := HR3.out; have HO3 := Lib.hid (rown_keep HOD.out hk3 (by omega)); have HB3 := Lib.hid (HAL.out.trans (hc3.below.mono HAL.out.size)); have hxc4 := ((box_keep HXD.out hk3 (by omega)).grown (Ret.grownBy_set w3 ⟨w.heap.size, 0, none⟩ (.slice x n c)) (fun e => by have h9 : w2.heap.size = w.heap.size := (Option.some.inj e); omega)).cell; clear hc3 hk3))
  obtain ⟨z1, z2, z3⟩ := Row.endN (w := w) (g := w.heap.size) (Nat.le_refl _) (by omega) HO3.out hr3 HB3.out
  have HQ1 := Lib.hid z1; have HQ2 := Lib.hid z2; have HQ3 := Lib.hid z3
  clear z1 z2 z3 hxc3 hxc4
  go_wp2_with fail
  refine bodyPost_ret (Ret.results_ct rfl _ _ w.heap.size [_] rfl Row.aggN (Ret.one HQ1.out)) rfl ?_
  exact ⟨_, m, t, rfl, HQ2.out, hm, by omega, HQ3.out⟩

end Go.Proofs.Ytnhfdgjbbjogmaa.Draw
