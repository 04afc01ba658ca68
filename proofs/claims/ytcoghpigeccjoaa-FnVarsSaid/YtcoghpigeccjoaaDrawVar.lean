/- Contracts of the reference model's draws of chapter 2: slices of bytes and of integers in memory of the call's own, integers that fit their kind. What was in memory stays as it was. -/
import Derived.Test.YtcoghpigeccjoaaDrawB
namespace Go.Proofs.Ytcoghpigeccjoaa.Draw
open Go.ChangeShapes Go.WideShapes Go.ChangeAt Go.RowKit Go.Instr
open Sl (Holds Own Byt nth wpList_app holds_one own_empty elemBYTE elemINT)
set_option linter.unusedVariables false

theorem byt_encs (l : List Int) : Byt (Sl.encs l) := fun x hx => by
  unfold Sl.encs at hx
  obtain ⟨y, _, hy⟩ := List.mem_flatMap.1 hx
  exact byt_var y x hy

def QDrawAppendVarint (w : World) (e : Ending) (w' : World) : Prop := ∃ (x0 : Value) (m0 : List Int) (n1 : Int), e = .returned (.tuple #[x0, .int .i64 n1]) ∧ Own 5 .u8 w.heap.size w' x0 m0 ∧ Byt m0 ∧ m0.length ≤ 100 ∧ (Lit.int .i64 n1).wf = true ∧ Below w.heap.size w w'

set_option maxHeartbeats 1000000 in
theorem drawAppendVarint (w : World) (v : Value) (l : List UInt8) (hb : Frame.Bytes w v l) :
    Calls Try.prog 13 #[v] w (QDrawAppendVarint w) := by
  have h := new w v l hb
  have HN0 := Lib.hid h; clear h hb
  go_enter Try.func13, Try.ntmps13
  go_wp2_with fail
  refine HN0.out.mono ?_
  rintro e w1 ⟨rfl, hc⟩
  have C := Lib.hid hc; clear hc
  have h := below w w.heap.size v l _ 3 C.out
  have HD := Lib.hid h; clear h
  go_wp2_with fail
  refine HD.out.mono ?_
  rintro e w2 ⟨y, rfl, ⟨r1, rfl, hr, _⟩, hc, hk⟩
  replace C := Lib.hid hc; clear hc hk HD
  have r1b := hr (by omega); clear hr
  obtain ⟨k2, rfl⟩ := Int.eq_ofNat_of_zero_le r1b.1
  have k2b : k2 < 3 := by omega
  clear r1b
  have C0 := C
  have h := bytes w w.heap.size v l _ k2 (by omega) C.out
  have HD := Lib.hid h; clear h
  go_wp2_with fail
  refine HD.out.mono ?_
  rintro e w3 ⟨y, rfl, ⟨m4, ho, m4y, m40, m41⟩, hc, hk⟩
  replace C := Lib.hid hc; clear hc hk HD
  replace ho := ho.mono (Nat.succ_le_of_lt C0.out.lt)
  have Hm4y := Lib.hid m4y; clear m4y C0
  have Ox3 := Lib.hid ho; clear ho
  have h := one w w.heap.size v l _ C.out
  have HD := Lib.hid h; clear h
  go_wp2_with fail
  refine HD.out.mono ?_
  rintro e w4 ⟨y, rfl, ⟨a5, rfl, a5w⟩, hc, hk⟩
  replace Ox3 := Lib.hid (own_keep Ox3.out hk (Nat.lt_succ_self _))
  replace C := Lib.hid hc; clear hc hk HD
  have Ha5w := Lib.hid a5w; clear a5w
  go_wp2_with fail
  go_ret2
  exact ⟨_, m4, _, rfl, Ox3.out.mono (Nat.le_succ _), Hm4y.out, by omega, Ha5w.out, C.out.below⟩

def QDrawAppendBytes (w : World) (e : Ending) (w' : World) : Prop := ∃ (x0 : Value) (m0 : List Int) (x1 : Value) (m1 : List Int), e = .returned (.tuple #[x0, x1]) ∧ Own 5 .u8 w.heap.size w' x0 m0 ∧ Byt m0 ∧ m0.length ≤ 100 ∧ Own 5 .u8 w.heap.size w' x1 m1 ∧ Byt m1 ∧ m1.length ≤ 100 ∧ Below w.heap.size w w'

set_option maxHeartbeats 1000000 in
theorem drawAppendBytes (w : World) (v : Value) (l : List UInt8) (hb : Frame.Bytes w v l) :
    Calls Try.prog 18 #[v] w (QDrawAppendBytes w) := by
  have h := new w v l hb
  have HN0 := Lib.hid h; clear h hb
  go_enter Try.func18, Try.ntmps18
  go_wp2_with fail
  refine HN0.out.mono ?_
  rintro e w1 ⟨rfl, hc⟩
  have C := Lib.hid hc; clear hc
  have h := below w w.heap.size v l _ 3 C.out
  have HD := Lib.hid h; clear h
  go_wp2_with fail
  refine HD.out.mono ?_
  rintro e w2 ⟨y, rfl, ⟨r1, rfl, hr, _⟩, hc, hk⟩
  replace C := Lib.hid hc; clear hc hk HD
  have r1b := hr (by omega); clear hr
  obtain ⟨k2, rfl⟩ := Int.eq_ofNat_of_zero_le r1b.1
  have k2b : k2 < 3 := by omega
  clear r1b
  have C0 := C
  have h := bytes w w.heap.size v l _ k2 (by omega) C.out
  have HD := Lib.hid h; clear h
  go_wp2_with fail
  refine HD.out.mono ?_
  rintro e w3 ⟨y, rfl, ⟨m4, ho, m4y, m40, m41⟩, hc, hk⟩
  replace C := Lib.hid hc; clear hc hk HD
  replace ho := ho.mono (Nat.succ_le_of_lt C0.out.lt)
  have Hm4y := Lib.hid m4y; clear m4y C0
  have Ox3 := Lib.hid ho; clear ho
  have h := below w w.heap.size v l _ 6 C.out
  have HD := Lib.hid h; clear h
  go_wp2_with fail
  refine HD.out.mono ?_
  rintro e w4 ⟨y, rfl, ⟨r5, rfl, hr, _⟩, hc, hk⟩
  replace Ox3 := Lib.hid (own_keep Ox3.out hk (Nat.lt_succ_self _))
  replace C := Lib.hid hc; clear hc hk HD
  have r5b := hr (by omega); clear hr
  obtain ⟨k6, rfl⟩ := Int.eq_ofNat_of_zero_le r5b.1
  have k6b : k6 < 6 := by omega
  clear r5b
  have C0 := C
  have h := bytes w w.heap.size v l _ k6 (by omega) C.out
  have HD := Lib.hid h; clear h
  go_wp2_with fail
  refine HD.out.mono ?_
  rintro e w5 ⟨y, rfl, ⟨m8, ho, m8y, m80, m81⟩, hc, hk⟩
  replace Ox3 := Lib.hid (own_keep Ox3.out hk (Nat.lt_succ_self _))
  replace C := Lib.hid hc; clear hc hk HD
  replace ho := ho.mono (Nat.succ_le_of_lt C0.out.lt)
  have Hm8y := Lib.hid m8y; clear m8y C0
  have Ox7 := Lib.hid ho; clear ho
  go_wp2_with fail
  go_ret2
  exact ⟨_, m4, _, m8, rfl, Ox3.out.mono (Nat.le_succ _), Hm4y.out, by omega, Ox7.out.mono (Nat.le_succ _), Hm8y.out, by omega, C.out.below⟩

def QDrawReadBytes (w : World) (e : Ending) (w' : World) : Prop := ∃ (x0 : Value) (m0 : List Int) (n1 : Int) (n2 : Int), e = .returned (.tuple #[x0, .int .i64 n1, .int .i64 n2]) ∧ Own 5 .u8 w.heap.size w' x0 m0 ∧ Byt m0 ∧ m0.length ≤ 100 ∧ (Lit.int .i64 n1).wf = true ∧ (Lit.int .i64 n2).wf = true ∧ Below w.heap.size w w'

set_option maxHeartbeats 1000000 in
theorem drawReadBytes (w : World) (v : Value) (l : List UInt8) (hb : Frame.Bytes w v l) :
    Calls Try.prog 20 #[v] w (QDrawReadBytes w) := by
  have h := new w v l hb
  have HN0 := Lib.hid h; clear h hb
  go_enter Try.func20, Try.ntmps20
  go_wp2_with fail
  refine HN0.out.mono ?_
  rintro e w1 ⟨rfl, hc⟩
  have C := Lib.hid hc; clear hc
  have C0 := C
  have h := bytes w w.heap.size v l _ 1 (by omega) C.out
  have HD := Lib.hid h; clear h
  go_wp2_with fail
  refine HD.out.mono ?_
  rintro e w2 ⟨y, rfl, ⟨m2, ho, m2y, m20, m21⟩, hc, hk⟩
  replace C := Lib.hid hc; clear hc hk HD
  replace ho := ho.mono (Nat.succ_le_of_lt C0.out.lt)
  have Hm2y := Lib.hid m2y; clear m2y C0
  have Ox1 := Lib.hid ho; clear ho
  have h := below w w.heap.size v l _ 6 C.out
  have HD := Lib.hid h; clear h
  go_wp2_with fail
  refine HD.out.mono ?_
  rintro e w3 ⟨y, rfl, ⟨r3, rfl, hr, _⟩, hc, hk⟩
  replace Ox1 := Lib.hid (own_keep Ox1.out hk (Nat.lt_succ_self _))
  replace C := Lib.hid hc; clear hc hk HD
  have r3b := hr (by omega); clear hr
  obtain ⟨k4, rfl⟩ := Int.eq_ofNat_of_zero_le r3b.1
  have k4b : k4 < 6 := by omega
  clear r3b
  have C0 := C
  have h := bytes w w.heap.size v l _ k4 (by omega) C.out
  have HD := Lib.hid h; clear h
  go_wp2_with fail
  refine HD.out.mono ?_
  rintro e w4 ⟨y, rfl, ⟨m6, ho, m6y, m60, m61⟩, hc, hk⟩
  replace Ox1 := Lib.hid (own_keep Ox1.out hk (Nat.lt_succ_self _))
  replace C := Lib.hid hc; clear hc hk HD
  replace ho := ho.mono (Nat.succ_le_of_lt C0.out.lt)
  have Hm6y := Lib.hid m6y; clear m6y C0
  have Ox5 := Lib.hid ho; clear ho
  have hvl := Var.var_len m6.length
  go_wp2_with fail
  refine (Sl.specAppendBytes _ _ m2 m6 _ Ox1.out.holds Ox5.out.holds (by omega) (by omega)).mono ?_
  rintro e w5 ⟨x7, rfl, ho, hb⟩
  obtain ⟨m8, hm⟩ : ∃ m : List Int, m = m2 ++ Var.var m6.length ++ m6 := ⟨_, rfl⟩
  rw [← hm] at ho
  have Hm8y := Lib.hid (show Byt m8 by rw [hm]; exact byt_app (byt_app Hm2y.out (byt_var _)) Hm6y.out)
  have m8l : m8.length ≤ 50 := by rw [hm]; rw [List.length_append, List.length_append]; omega
  clear hm
  replace ho := ho.mono (Nat.succ_le_of_lt C.out.lt)
  replace Ox1 := Lib.hid (Ox1.out.on hb)
  replace Ox5 := Lib.hid (Ox5.out.on hb)
  replace C := Lib.hid (C.out.on hb); clear hb
  have Ox7 := Lib.hid ho; clear ho
  have C0 := C
  have h := bent w w.heap.size v l _ _ _ (Ox7.out.holds) Hm8y.out (by omega) C.out
  have HD := Lib.hid h; clear h
  go_wp2_with fail
  refine HD.out.mono ?_
  rintro e w6 ⟨y, rfl, ⟨m10, ho, m10y, m100, m101⟩, hc, hk⟩
  replace Ox1 := Lib.hid (own_keep Ox1.out hk (Nat.lt_succ_self _))
  replace Ox5 := Lib.hid (own_keep Ox5.out hk (Nat.lt_succ_self _))
  replace Ox7 := Lib.hid (own_keep Ox7.out hk (Nat.lt_succ_self _))
  replace C := Lib.hid hc; clear hc hk HD
  replace ho := ho.mono (Nat.succ_le_of_lt C0.out.lt)
  have Hm10y := Lib.hid m10y; clear m10y C0
  have Ox9 := Lib.hid ho; clear ho
  have h := intLit2 w w.heap.size v l _ C.out [1, 1, 1, 0, 9, -1] _ rfl 6 rfl (by decide) (by decide) (-1) (9) (by decide)
  have HD := Lib.hid h; clear h
  go_wp2_with fail
  refine HD.out.mono ?_
  rintro e w7 ⟨y, rfl, ⟨a11, rfl, a110, a111⟩, hc, hk⟩
  replace Ox1 := Lib.hid (own_keep Ox1.out hk (Nat.lt_succ_self _))
  replace Ox5 := Lib.hid (own_keep Ox5.out hk (Nat.lt_succ_self _))
  replace Ox7 := Lib.hid (own_keep Ox7.out hk (Nat.lt_succ_self _))
  replace Ox9 := Lib.hid (own_keep Ox9.out hk (Nat.lt_succ_self _))
  replace C := Lib.hid hc; clear hc hk HD
  have h := intLit2 w w.heap.size v l _ C.out [9, 9, 3, 0, -1] _ rfl 5 rfl (by decide) (by decide) (-1) (9) (by decide)
  have HD := Lib.hid h; clear h
  go_wp2_with fail
  refine HD.out.mono ?_
  rintro e w8 ⟨y, rfl, ⟨a12, rfl, a120, a121⟩, hc, hk⟩
  replace Ox1 := Lib.hid (own_keep Ox1.out hk (Nat.lt_succ_self _))
  replace Ox5 := Lib.hid (own_keep Ox5.out hk (Nat.lt_succ_self _))
  replace Ox7 := Lib.hid (own_keep Ox7.out hk (Nat.lt_succ_self _))
  replace Ox9 := Lib.hid (own_keep Ox9.out hk (Nat.lt_succ_self _))
  replace C := Lib.hid hc; clear hc hk HD
  go_wp2_with fail
  go_ret3
  exact ⟨_, m10, _, _, rfl, Ox9.out.mono (Nat.le_succ _), Hm10y.out, by omega, (wf_of (by omega) (by omega)), (wf_of (by omega) (by omega)), C.out.below⟩

def QDrawEncodeInts (w : World) (e : Ending) (w' : World) : Prop := ∃ (x0 : Value) (m0 : List Int), e = .returned x0 ∧ Own 3 .i64 w.heap.size w' x0 m0 ∧ (∀ y ∈ m0, (Lit.int .i64 y).wf = true) ∧ m0.length ≤ 100 ∧ Below w.heap.size w w'

set_option maxHeartbeats 1000000 in
theorem drawEncodeInts (w : World) (v : Value) (l : List UInt8) (hb : Frame.Bytes w v l) :
    Calls Try.prog 26 #[v] w (QDrawEncodeInts w) := by
  have h := new w v l hb
  have HN0 := Lib.hid h; clear h hb
  go_enter Try.func26, Try.ntmps26
  go_wp2_with fail
  refine HN0.out.mono ?_
  rintro e w1 ⟨rfl, hc⟩
  have C := Lib.hid hc; clear hc
  have C0 := C
  have h := ints w w.heap.size v l _ 5 (by omega) C.out
  have HD := Lib.hid h; clear h
  go_wp2_with fail
  refine HD.out.mono ?_
  rintro e w2 ⟨y, rfl, ⟨m2, ho, m2y, m21⟩, hc, hk⟩
  replace C := Lib.hid hc; clear hc hk HD
  replace ho := ho.mono (Nat.succ_le_of_lt C0.out.lt)
  have Hm2y := Lib.hid m2y; clear m2y C0
  have Ox1 := Lib.hid ho; clear ho
  have h := once w w.heap.size v l _ 6 C.out
  have HD := Lib.hid h; clear h
  go_wp2_with fail
  refine HD.out.mono ?_
  rintro e w3 ⟨y, rfl, ⟨b, rfl⟩, hc, hk⟩
  replace Ox1 := Lib.hid (own_keep Ox1.out hk (Nat.lt_succ_self _))
  replace C := Lib.hid hc; clear hc hk HD
  cases b
  · skip
    go_wp2_with fail
    go_ret
    exact ⟨_, m2, rfl, Ox1.out.mono (Nat.le_succ _), Hm2y.out, by omega, C.out.below⟩
  · skip
    have h := raw w w.heap.size v l _ C.out
    have HD := Lib.hid h; clear h
    go_wp2_with fail
    refine HD.out.mono ?_
    rintro e w4 ⟨y, rfl, ⟨a3, rfl, a3w⟩, hc, hk⟩
    replace Ox1 := Lib.hid (own_keep Ox1.out hk (Nat.lt_succ_self _))
    replace C := Lib.hid hc; clear hc hk HD
    have Ha3w := Lib.hid a3w; clear a3w
    go_wp2_with (at_builtin; refine wpList_app (k := .i64) (B := w.heap.size + 1) (l := m2) (m := [a3]) rfl _ _ rfl Try.underlying37 elemINT rfl rfl rfl (Ox1.out.on ((Below.refl _ _).alloc (Nat.le_refl _) _)) (holds_one .i64 _ _ _) ?_ (by decide) ?_ ?_)
    · simp; omega
    · have := C.out.lt; simp; omega
    intro vz wz ho hg
    have hbz : Below w.heap.size w wz := ((C.out.below).alloc C.out.below.size _).grown hg (by have := C.out.below.size; simp; omega) (fun g hh => by have := (Ox1.out.lt g hh).1; omega)
    have HZ := Lib.hid (And.intro ho hbz); clear ho hg hbz
    go_wp2_with fail
    go_ret
    exact ⟨_, _, rfl, HZ.out.1.mono (Nat.le_succ _), fun y hy => by
      rcases List.mem_append.1 hy with h | h
      · exact Hm2y.out y h
      · obtain rfl : y = a3 := by simpa using h
        exact Ha3w.out, by rw [List.length_append, List.length_singleton]; omega, HZ.out.2⟩

def QDrawDecodeInts (w : World) (e : Ending) (w' : World) : Prop := ∃ (x0 : Value) (m0 : List Int) (n1 : Int) (n2 : Int), e = .returned (.tuple #[x0, .int .i64 n1, .int .i64 n2]) ∧ Own 5 .u8 w.heap.size w' x0 m0 ∧ Byt m0 ∧ m0.length ≤ 100 ∧ (Lit.int .i64 n1).wf = true ∧ (Lit.int .i64 n2).wf = true ∧ Below w.heap.size w w'

set_option maxHeartbeats 1000000 in
theorem drawDecodeInts (w : World) (v : Value) (l : List UInt8) (hb : Frame.Bytes w v l) :
    Calls Try.prog 27 #[v] w (QDrawDecodeInts w) := by
  have h := new w v l hb
  have HN0 := Lib.hid h; clear h hb
  go_enter Try.func27, Try.ntmps27
  go_wp2_with fail
  refine HN0.out.mono ?_
  rintro e w1 ⟨rfl, hc⟩
  have C := Lib.hid hc; clear hc
  have C0 := C
  have h := ints w w.heap.size v l _ 5 (by omega) C.out
  have HD := Lib.hid h; clear h
  go_wp2_with fail
  refine HD.out.mono ?_
  rintro e w2 ⟨y, rfl, ⟨m2, ho, m2y, m21⟩, hc, hk⟩
  replace C := Lib.hid hc; clear hc hk HD
  replace ho := ho.mono (Nat.succ_le_of_lt C0.out.lt)
  have Hm2y := Lib.hid m2y; clear m2y C0
  have Ox1 := Lib.hid ho; clear ho
  have hel := Sl.encs_len m2
  go_wp2_with fail
  refine (Sl.specEncodeInts _ m2 _ Ox1.out.holds (by omega)).mono ?_
  rintro e w3 ⟨x3, rfl, ho, hb⟩
  obtain ⟨m4, hm⟩ : ∃ m : List Int, m = Sl.encs m2 := ⟨_, rfl⟩
  rw [← hm] at ho
  have Hm4y := Lib.hid (show Byt m4 by rw [hm]; exact byt_encs _)
  have m4l : m4.length ≤ 50 := by rw [hm]; omega
  clear hm
  replace ho := ho.mono (Nat.succ_le_of_lt C.out.lt)
  replace Ox1 := Lib.hid (Ox1.out.on hb)
  replace C := Lib.hid (C.out.on hb); clear hb
  have Ox3 := Lib.hid ho; clear ho
  have C0 := C
  have h := bent w w.heap.size v l _ _ _ (Ox3.out.holds) Hm4y.out (by omega) C.out
  have HD := Lib.hid h; clear h
  go_wp2_with fail
  refine HD.out.mono ?_
  rintro e w4 ⟨y, rfl, ⟨m6, ho, m6y, m60, m61⟩, hc, hk⟩
  replace Ox1 := Lib.hid (own_keep Ox1.out hk (Nat.lt_succ_self _))
  replace Ox3 := Lib.hid (own_keep Ox3.out hk (Nat.lt_succ_self _))
  replace C := Lib.hid hc; clear hc hk HD
  replace ho := ho.mono (Nat.succ_le_of_lt C0.out.lt)
  have Hm6y := Lib.hid m6y; clear m6y C0
  have Ox5 := Lib.hid ho; clear ho
  obtain ⟨xa, xc, rfl, -, -⟩ := Ox1.out.holds.shape
  have h := once w w.heap.size v l _ 4 C.out
  have HD := Lib.hid h; clear h
  go_wp2_with fail
  refine HD.out.mono ?_
  rintro e w5 ⟨y, rfl, ⟨b, rfl⟩, hc, hk⟩
  replace Ox1 := Lib.hid (own_keep Ox1.out hk (Nat.lt_succ_self _))
  replace Ox3 := Lib.hid (own_keep Ox3.out hk (Nat.lt_succ_self _))
  replace Ox5 := Lib.hid (own_keep Ox5.out hk (Nat.lt_succ_self _))
  replace C := Lib.hid hc; clear hc hk HD
  cases b
  · skip
    have h := intLit2 w w.heap.size v l _ C.out [0, 0, 0, 1, -1, 99] _ rfl 6 rfl (by decide) (by decide) (-1) (99) (by decide)
    have HD := Lib.hid h; clear h
    go_wp2_with fail
    refine HD.out.mono ?_
    rintro e w6 ⟨y, rfl, ⟨a7, rfl, a70, a71⟩, hc, hk⟩
    replace Ox1 := Lib.hid (own_keep Ox1.out hk (Nat.lt_succ_self _))
    replace Ox3 := Lib.hid (own_keep Ox3.out hk (Nat.lt_succ_self _))
    replace Ox5 := Lib.hid (own_keep Ox5.out hk (Nat.lt_succ_self _))
    replace C := Lib.hid hc; clear hc hk HD
    go_wp2_with fail
    go_ret3
    exact ⟨_, _, _, _, rfl, Ox5.out.mono (Nat.le_succ _), Hm6y.out, by omega, wf_of (by omega) (by omega), wf_of (by omega) (by omega), C.out.below⟩
  · skip
    have h := intLit2 w w.heap.size v l _ C.out [0, 1, 6, -1, 101] _ rfl 5 rfl (by decide) (by decide) (-1) (101) (by decide)
    have HD := Lib.hid h; clear h
    go_wp2_with fail
    refine HD.out.mono ?_
    rintro e w7 ⟨y, rfl, ⟨a8, rfl, a80, a81⟩, hc, hk⟩
    replace Ox1 := Lib.hid (own_keep Ox1.out hk (Nat.lt_succ_self _))
    replace Ox3 := Lib.hid (own_keep Ox3.out hk (Nat.lt_succ_self _))
    replace Ox5 := Lib.hid (own_keep Ox5.out hk (Nat.lt_succ_self _))
    replace C := Lib.hid hc; clear hc hk HD
    have h := intLit2 w w.heap.size v l _ C.out [0, 0, 0, 1, -1, 99] _ rfl 6 rfl (by decide) (by decide) (-1) (99) (by decide)
    have HD := Lib.hid h; clear h
    go_wp2_with fail
    refine HD.out.mono ?_
    rintro e w8 ⟨y, rfl, ⟨a9, rfl, a90, a91⟩, hc, hk⟩
    replace Ox1 := Lib.hid (own_keep Ox1.out hk (Nat.lt_succ_self _))
    replace Ox3 := Lib.hid (own_keep Ox3.out hk (Nat.lt_succ_self _))
    replace Ox5 := Lib.hid (own_keep Ox5.out hk (Nat.lt_succ_self _))
    replace C := Lib.hid hc; clear hc hk HD
    go_wp2_with fail
    go_ret3
    exact ⟨_, m6, _, _, rfl, Ox5.out.mono (Nat.le_succ _), Hm6y.out, by omega, (wf_of (by omega) (by omega)), (wf_of (by omega) (by omega)), C.out.below⟩

def QDrawEqualBytes (w : World) (e : Ending) (w' : World) : Prop := ∃ (x0 : Value) (m0 : List Int) (x1 : Value) (m1 : List Int), e = .returned (.tuple #[x0, x1]) ∧ Own 5 .u8 w.heap.size w' x0 m0 ∧ Byt m0 ∧ m0.length ≤ 100 ∧ Own 5 .u8 w.heap.size w' x1 m1 ∧ Byt m1 ∧ m1.length ≤ 100 ∧ Below w.heap.size w w'

set_option maxHeartbeats 1000000 in
theorem drawEqualBytes (w : World) (v : Value) (l : List UInt8) (hb : Frame.Bytes w v l) :
    Calls Try.prog 30 #[v] w (QDrawEqualBytes w) := by
  have h := new w v l hb
  have HN0 := Lib.hid h; clear h hb
  go_enter Try.func30, Try.ntmps30
  go_wp2_with fail
  refine HN0.out.mono ?_
  rintro e w1 ⟨rfl, hc⟩
  have C := Lib.hid hc; clear hc
  have h := below w w.heap.size v l _ 5 C.out
  have HD := Lib.hid h; clear h
  go_wp2_with fail
  refine HD.out.mono ?_
  rintro e w2 ⟨y, rfl, ⟨r1, rfl, hr, _⟩, hc, hk⟩
  replace C := Lib.hid hc; clear hc hk HD
  have r1b := hr (by omega); clear hr
  obtain ⟨k2, rfl⟩ := Int.eq_ofNat_of_zero_le r1b.1
  have k2b : k2 < 5 := by omega
  clear r1b
  have C0 := C
  have h := bytes w w.heap.size v l _ k2 (by omega) C.out
  have HD := Lib.hid h; clear h
  go_wp2_with fail
  refine HD.out.mono ?_
  rintro e w3 ⟨y, rfl, ⟨m4, ho, m4y, m40, m41⟩, hc, hk⟩
  replace C := Lib.hid hc; clear hc hk HD
  replace ho := ho.mono (Nat.succ_le_of_lt C0.out.lt)
  have Hm4y := Lib.hid m4y; clear m4y C0
  have Ox3 := Lib.hid ho; clear ho
  have h := once w w.heap.size v l _ 2 C.out
  have HD := Lib.hid h; clear h
  go_wp2_with fail
  refine HD.out.mono ?_
  rintro e w4 ⟨y, rfl, ⟨b, rfl⟩, hc, hk⟩
  replace Ox3 := Lib.hid (own_keep Ox3.out hk (Nat.lt_succ_self _))
  replace C := Lib.hid hc; clear hc hk HD
  cases b
  · skip
    have C0 := C
    have h := bent w w.heap.size v l _ _ _ (Ox3.out.holds) Hm4y.out (by omega) C.out
    have HD := Lib.hid h; clear h
    go_wp2_with fail
    refine HD.out.mono ?_
    rintro e w5 ⟨y, rfl, ⟨m6, ho, m6y, m60, m61⟩, hc, hk⟩
    replace Ox3 := Lib.hid (own_keep Ox3.out hk (Nat.lt_succ_self _))
    replace C := Lib.hid hc; clear hc hk HD
    replace ho := ho.mono (Nat.succ_le_of_lt C0.out.lt)
    have Hm6y := Lib.hid m6y; clear m6y C0
    have Ox5 := Lib.hid ho; clear ho
    go_wp2_with fail
    go_ret2
    exact ⟨_, m4, _, m6, rfl, Ox3.out.mono (Nat.le_succ _), Hm4y.out, by omega, Ox5.out.mono (Nat.le_succ _), Hm6y.out, by omega, C.out.below⟩
  · skip
    obtain ⟨xa, xc, rfl, -, -⟩ := Ox3.out.holds.shape
    have C0 := C
    go_wp2_with (at_builtin; refine wpList_app (k := .u8) (B := w.heap.size + 1) (l := []) (m := m4) rfl _ _ rfl Try.underlying22 elemBYTE rfl rfl rfl ((own_empty .u8 _ _).mono (Nat.succ_le_of_lt C0.out.lt)) (Ox3.out.holds.on ((Below.refl _ _).alloc (Nat.le_refl _) _)) ?_ (by decide) ?_ ?_)
    · simp; omega
    · have := C.out.lt; simp; omega
    intro vz wz ho hg
    have hlt := C.out.lt
    have hgl : ∀ g, (Value.slice (some ⟨w4.heap.size, 0, none⟩) 0 0).ownBlock = some g → w4.heap.size ≤ g := fun g hh => by cases hh; exact Nat.le_refl _
    have hbz : Below w.heap.size w wz := ((C.out.below).alloc C.out.below.size _).grown hg (by have := C.out.below.size; simp; omega) (fun g hh => by have := hgl g hh; have := C.out.below.size; omega)
    have hxz := Sl.Own.grown (Ox3.out.on ((Below.refl _ _).alloc (Nat.le_refl _) (.cells #[] 5))) hg (by cases xa with | none => exact Or.inl rfl | some aa => exact Or.inr (fun he => by have h1 := (Ox3.out.lt aa.block rfl).2; have h2 := hgl aa.block he.symm; omega))
    have HZ := Lib.hid (And.intro ho (And.intro hxz hbz)); clear ho hg hbz hxz hgl hlt
    go_wp2_with fail
    go_ret2
    exact ⟨_, _, _, _, rfl, HZ.out.2.1.mono (Nat.le_succ _), Hm4y.out, by omega, HZ.out.1.mono (Nat.le_succ _), Hm4y.out, by omega, HZ.out.2.2⟩

def QDrawReadVarint (w : World) (e : Ending) (w' : World) : Prop := ∃ (x0 : Value) (m0 : List Int) (n1 : Int), e = .returned (.tuple #[x0, .int .i64 n1]) ∧ Own 5 .u8 w.heap.size w' x0 m0 ∧ Byt m0 ∧ m0.length ≤ 100 ∧ (Lit.int .i64 n1).wf = true ∧ Below w.heap.size w w'

set_option maxHeartbeats 1000000 in
theorem drawReadVarint (w : World) (v : Value) (l : List UInt8) (hb : Frame.Bytes w v l) :
    Calls Try.prog 15 #[v] w (QDrawReadVarint w) := by
  have h := new w v l hb
  have HN0 := Lib.hid h; clear h hb
  go_enter Try.func15, Try.ntmps15
  go_wp2_with fail
  refine HN0.out.mono ?_
  rintro e w1 ⟨rfl, hc⟩
  have C := Lib.hid hc; clear hc
  have h := once w w.heap.size v l _ 2 C.out
  have HD := Lib.hid h; clear h
  go_wp2_with fail
  refine HD.out.mono ?_
  rintro e w2 ⟨y, rfl, ⟨b, rfl⟩, hc, hk⟩
  replace C := Lib.hid hc; clear hc hk HD
  cases b
  · skip
    have H0 := Lib.hid ((own_empty .u8 5 w2).mono (Nat.succ_le_of_lt C.out.lt))
    have C1 := Lib.hid (C.out.alloc (.cells #[] 5))
    have HK0 := Lib.hid (keep_alloc w.heap.size w2 (.cells #[] 5))
    have h := below w w.heap.size v l _ 8 C1.out
    have HB := Lib.hid h; clear h
    go_wp2_with fail
    refine HB.out.mono ?_
    rintro e w3 ⟨y, rfl, ⟨r, rfl, hr, _⟩, hc, hk⟩
    have hr := hr (by omega)
    obtain ⟨n, rfl⟩ := Int.eq_ofNat_of_zero_le hr.1
    have hn : n ≤ 8 := by omega
    have O1 := Lib.hid (own_keep H0.out hk (Nat.lt_succ_self _))
    replace C := Lib.hid hc; clear hc hk hr
    go_wp2_with fail
    go_loopw [5, 6] (fun bv iv wr => ∃ (k : Nat) (m : List Int), k ≤ n ∧ iv = .int .i64 k ∧ m.length + k = n ∧ Hid (Byt m) ∧ Hid (Own 5 .u8 (w.heap.size + 1) wr bv m) ∧ Hid (Cur w w.heap.size v l wr)) (fun _ iv _ => (intOf iv).toNat)
    case atStart => exact ⟨n, [], Nat.le_refl _, rfl, by simp, Lib.hid byt_nil, O1, C⟩
    case round =>
      obtain ⟨k, m, hk, rfl, hm, hB, ho, hcu⟩ := hrel
      have HM := Lib.hid hm; clear hm
      by_cases hlt : 0 < k
      · have h := intLit2 w w.heap.size v l _ hcu.out [128, 255, 0, 1, 127] _ rfl 5 rfl (by decide) (by decide) 0 255 (by decide)
        have HB := Lib.hid h; clear h
        go_wp2_with fail
        refine HB.out.mono ?_
        rintro e w4 ⟨y, rfl, ⟨a, rfl, a0, a1⟩, hc, hk⟩
        have O2 := Lib.hid (own_keep ho.out hk (Nat.lt_succ_self _))
        have C2 := Lib.hid hc; clear hc hk
        go_wp2_with (at_builtin; refine wpList_app (k := .u8) (B := w.heap.size + 1) (l := m) (m := [a]) rfl _ _ rfl Try.underlying22 elemBYTE rfl rfl rfl (O2.out.on ((Below.refl _ _).alloc (Nat.le_refl _) _)) (holds_one .u8 _ _ _) ?_ (by decide) ?_ ?_)
        · have := HM.out; simp; omega
        · have := C2.out.lt; simp; omega
        intro v5 w5 ho5 hg
        have hc5 := (C2.out.alloc (.cells #[.int .u8 a] 5)).grown hg (fun g hh => by have := (O2.out.lt g hh).1; omega)
        have HO5 := Lib.hid ho5; have C5 := Lib.hid hc5; clear ho5 hg hc5
        go_wp2_with fail
        go_roundw
        case rel => exact ⟨k - 1, m ++ [a], by omega, by congr 1; omega, by have := HM.out; rw [List.length_append, List.length_singleton]; omega, Lib.hid (byt_app hB.out (byt_one a0 a1)), HO5, C5⟩
        case measure => simp [intOf]; omega
      · obtain rfl : k = 0 := by omega
        clear hlt
        have h := below w w.heap.size v l _ 4 hcu.out
        have HB := Lib.hid h; clear h
        go_wp2_with fail
        refine HB.out.mono ?_
        rintro e w4 ⟨y, rfl, ⟨r, rfl, hr, _⟩, hc, hk⟩
        have hr := hr (by omega)
        have O2 := Lib.hid (own_keep ho.out hk (Nat.lt_succ_self _))
        have C2 := Lib.hid hc; clear hc hk
        go_wp2_with fail
        go_ret2
        exact ⟨_, _, _, rfl, O2.out.mono (Nat.le_succ _), hB.out, by have := HM.out; omega, wf_of (by omega) (by omega), C2.out.below⟩
  · skip
    have C0 := C
    have h := bytes w w.heap.size v l _ 1 (by omega) C.out
    have HD := Lib.hid h; clear h
    go_wp2_with fail
    refine HD.out.mono ?_
    rintro e w3 ⟨y, rfl, ⟨m2, ho, m2y, m20, m21⟩, hc, hk⟩
    replace C := Lib.hid hc; clear hc hk HD
    replace ho := ho.mono (Nat.succ_le_of_lt C0.out.lt)
    have Hm2y := Lib.hid m2y; clear m2y C0
    have Ox1 := Lib.hid ho; clear ho
    have h := num w w.heap.size v l _ C.out
    have HD := Lib.hid h; clear h
    go_wp2_with fail
    refine HD.out.mono ?_
    rintro e w4 ⟨y, rfl, ⟨a3, rfl, a3w⟩, hc, hk⟩
    replace Ox1 := Lib.hid (own_keep Ox1.out hk (Nat.lt_succ_self _))
    replace C := Lib.hid hc; clear hc hk HD
    have Ha3w := Lib.hid a3w; clear a3w
    have hvl := Var.var_len a3
    go_wp2_with fail
    refine (Sl.specAppendVarint _ m2 a3 _ Ox1.out.holds (by omega)).mono ?_
    rintro e w5 ⟨x4, rfl, ho, hb⟩
    obtain ⟨m5, hm⟩ : ∃ m : List Int, m = m2 ++ Var.var a3 := ⟨_, rfl⟩
    rw [← hm] at ho
    have Hm5y := Lib.hid (show Byt m5 by rw [hm]; exact byt_app Hm2y.out (byt_var _))
    have m5l : m5.length ≤ 20 := by rw [hm]; rw [List.length_append]; omega
    clear hm
    replace ho := ho.mono (Nat.succ_le_of_lt C.out.lt)
    replace Ox1 := Lib.hid (Ox1.out.on hb)
    replace C := Lib.hid (C.out.on hb); clear hb
    have Ox4 := Lib.hid ho; clear ho
    go_wp2_with fail
    go_ret2
    exact ⟨_, _, _, rfl, Ox4.out.mono (Nat.le_succ _), Hm5y.out, by omega, wf_of (by omega) (by omega), C.out.below⟩

end Go.Proofs.Ytcoghpigeccjoaa.Draw
