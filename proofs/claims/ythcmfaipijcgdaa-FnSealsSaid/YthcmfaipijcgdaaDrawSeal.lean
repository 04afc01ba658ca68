/- Contracts of the reference model's draws of chapter 3: secrets, slices of integers and of bytes, texts. What was in memory stays as it was. -/
import Derived.Test.YthcmfaipijcgdaaDrawB
namespace Go.Proofs.Ythcmfaipijcgdaa.Draw
open Go.ChangeShapes Go.WideShapes Go.ChangeAt Go.RowKit Go.Instr
open Sl (Holds Own Byt nth wpList_app holds_one own_empty elemBYTE elemINT)
set_option linter.unusedVariables false

/-- A text of at most so many bytes. -/
def StrUpto (k : Nat) (x : Value) : Prop := ∃ t : ByteArray, x = .string t ∧ t.size ≤ k
theorem strLit2 (w0 : World) (p : Nat) (v : Value) (l : List UInt8) (w : World) (hc : Cur w0 p v l w) (xs : List ByteArray) (C : Array Value) (hC : C = (xs.map Value.string).toArray) (n : Nat) (hn : xs.length = n) (h0 : 0 < n) (h1 : n < 1000) (k : Nat) (hk : (xs.all fun t => decide (t.size ≤ k)) = true) :
    Calls Try.prog 55 #[.pointer (some ⟨p, 0, none⟩), .slice (some ⟨w.heap.size, 0, none⟩) n n] (w.alloc (.cells C 9)) (Drawn w0 p v l w (StrUpto k)) :=
  strLit w0 p v l w hc xs C hC n hn h0 h1 (StrUpto k) (fun x hx => ⟨x, rfl, by have := List.all_eq_true.1 hk x hx; simpa using this⟩)

set_option maxHeartbeats 1000000 in
theorem word (w0 : World) (p : Nat) (v : Value) (l : List UInt8) (w : World) (hc : Cur w0 p v l w) :
    Calls Try.prog 49 #[.pointer (some ⟨p, 0, none⟩)] w (Drawn w0 p v l w Is64) := by
  have h := once w0 p v l w 10 hc
  have HD := Lib.hid h; clear h hc
  go_enter Try.func49, Try.ntmps49
  go_wp2_with fail
  refine HD.out.mono ?_
  rintro e w1 ⟨y, rfl, ⟨b, rfl⟩, hc, hk⟩
  have C := Lib.hid hc; have K := Lib.hid hk
  clear hc hk HD
  cases b
  · have h := once w0 p v l _ 4 C.out
    have HD := Lib.hid h; clear h
    go_wp2_with fail
    refine HD.out.mono ?_
    rintro e w2 ⟨y, rfl, ⟨b, rfl⟩, hc, hk⟩
    replace C := Lib.hid hc; replace K := Lib.hid (K.out.trans hk)
    clear hc hk HD
    cases b
    · have h := below w0 p v l _ 1000000 C.out
      have HD := Lib.hid h; clear h
      go_wp2_with fail
      refine HD.out.mono ?_
      rintro e w3 ⟨y, rfl, ⟨r, rfl, hr, _⟩, hc, hk⟩
      have hr := hr (by omega)
      replace C := Lib.hid hc; replace K := Lib.hid (K.out.trans hk)
      clear hc hk HD
      have h := below w0 p v l _ 2000 C.out
      have HD := Lib.hid h; clear h
      go_wp2_with fail
      refine HD.out.mono ?_
      rintro e w4 ⟨y, rfl, ⟨q, rfl, hq, _⟩, hc, hk⟩
      have hq := hq (by omega)
      replace C := Lib.hid hc; replace K := Lib.hid (K.out.trans hk)
      clear hc hk HD
      have hm : 0 ≤ r * q := Int.mul_nonneg hr.1 hq.1
      have hm2 : r * q ≤ 1000000 * 2000 := Int.mul_le_mul (by omega) (by omega) hq.1 (by omega)
      go_wp2_with fail
      go_ret
      exact ⟨_, rfl, ⟨_, rfl, wf_of (by omega) (by omega)⟩, C.out, K.out⟩
    · have h := intLit w0 p v l _ C.out [0, 1, 2147483646] _ rfl 3 rfl (by decide) (by decide) Is64 (wf_lits (by decide))
      have HD := Lib.hid h; clear h
      go_wp2_with fail
      refine HD.out.mono ?_
      rintro e w3 ⟨y, rfl, ⟨a, rfl, ha⟩, hc, hk⟩
      replace C := Lib.hid hc; replace K := Lib.hid (K.out.trans hk); have HA := Lib.hid ha
      clear hc hk HD ha
      go_wp2_with fail
      go_ret
      exact ⟨_, rfl, ⟨_, rfl, HA.out⟩, C.out, K.out⟩
  · have h := intLit w0 p v l _ C.out [-1, 2147483647, 2147483648] _ rfl 3 rfl (by decide) (by decide) Is64 (wf_lits (by decide))
    have HD := Lib.hid h; clear h
    go_wp2_with fail
    refine HD.out.mono ?_
    rintro e w3 ⟨y, rfl, ⟨a, rfl, ha⟩, hc, hk⟩
    replace C := Lib.hid hc; replace K := Lib.hid (K.out.trans hk); have HA := Lib.hid ha
    clear hc hk HD ha
    go_wp2_with fail
    go_ret
    exact ⟨_, rfl, ⟨_, rfl, HA.out⟩, C.out, K.out⟩

set_option maxHeartbeats 1000000 in
theorem words (w0 : World) (p : Nat) (v : Value) (l : List UInt8) (w : World) (hc : Cur w0 p v l w) :
    Calls Try.prog 50 #[.pointer (some ⟨p, 0, none⟩)] w (DrawnW w0 p v l w (IntsIn w.heap.size 4)) := by
  have hpl := hc.lt
  have HC := Lib.hid hc
  have H0 := Lib.hid (own_empty .i64 3 w)
  have hc0 := hc.alloc (.cells #[] 3)
  have HK0 := Lib.hid (keep_alloc p w (.cells #[] 3))
  have hb := below w0 p v l _ 5 hc0
  have HB := Lib.hid hb
  clear hc hc0 hb
  go_enter Try.func50, Try.ntmps50
  go_wp2_with fail
  refine HB.out.mono ?_
  rintro e w1 ⟨y, rfl, ⟨r, rfl, hr, _⟩, hc1, hk1⟩
  have hr := hr (by omega)
  obtain ⟨c, rfl⟩ := Int.eq_ofNat_of_zero_le hr.1
  have hcn : c ≤ 4 := by omega
  have O1 := Lib.hid (own_keep H0.out hk1 hpl)
  have C1 := Lib.hid (And.intro hc1 (HK0.out.trans hk1))
  clear hc1 hk1 hr
  go_wp2_with fail
  go_loopw [3, 4] (fun ov iv wr => ∃ (k : Nat) (m : List Int), k ≤ c ∧ iv = .int .i64 k ∧ m.length + k = c ∧ Hid (∀ y ∈ m, (Lit.int .i64 y).wf = true) ∧ Hid (Own 3 .i64 w.heap.size wr ov m) ∧ Hid (Cur w0 p v l wr ∧ Keep p w wr)) (fun _ iv _ => (intOf iv).toNat)
  case atStart => exact ⟨c, [], Nat.le_refl _, rfl, by simp, Lib.hid (fun y hy => by simp at hy), O1, C1⟩
  case round =>
    obtain ⟨k, m, hk, rfl, hm, hB, ho, hcu⟩ := hrel
    have HM := Lib.hid hm; clear hm
    by_cases hlt : 0 < k
    · have hb := word w0 p v l wr hcu.out.1
      have HB := Lib.hid hb; clear hb
      go_wp2_with fail
      refine HB.out.mono ?_
      rintro e w2 ⟨y, rfl, ⟨a, rfl, ha⟩, hc1, hk1⟩
      have O2 := Lib.hid (own_keep ho.out hk1 hpl)
      have C2 := Lib.hid (And.intro hc1 (hcu.out.2.trans hk1))
      have HA := Lib.hid ha
      clear hc1 hk1 ha
      go_wp2_with (at_builtin; refine wpList_app (k := .i64) (B := w.heap.size) (l := m) (m := [a]) rfl _ _ rfl Try.underlying24 elemINT rfl rfl rfl (O2.out.on ((Below.refl _ _).alloc (Nat.le_refl _) _)) (holds_one .i64 _ _ _) ?_ (by decide) ?_ ?_)
      · have := HM.out; simp; omega
      · have := C2.out.2.size; simp; omega
      intro v3 w3 ho3 hg
      have hlt2 := fun g hh => (O2.out.lt g hh).1
      have hc3 := (C2.out.1.alloc (.cells #[.int .i64 a] 3)).grown hg (fun g hh => ⟨by have := hlt2 g hh; have := HC.out.below.size; omega, by have := hlt2 g hh; omega⟩)
      have hk3 := (C2.out.2.trans (keep_alloc p w2 (.cells #[.int .i64 a] 3))).grown hg hlt2
      have HO3 := Lib.hid ho3; have C3 := Lib.hid (And.intro hc3 hk3)
      clear ho3 hg hc3 hk3 hlt2
      go_wp2_with fail
      go_roundw
      case rel => exact ⟨k - 1, m ++ [a], by omega, by congr 1; omega, by have := HM.out; rw [List.length_append, List.length_singleton]; omega, Lib.hid (fun y hy => by
          rcases List.mem_append.1 hy with h | h
          · exact hB.out y h
          · obtain rfl : y = a := by simpa using h
            exact HA.out), HO3, C3⟩
      case measure => simp [intOf]; omega
    · obtain rfl : k = 0 := by omega
      clear hlt
      go_wp2_with fail
      go_ret
      exact ⟨_, rfl, ⟨m, ho.out, hB.out, by have := HM.out; omega⟩, hcu.out.1, hcu.out.2⟩

def QDrawDigest (w : World) (e : Ending) (w' : World) : Prop := ∃ (x0 : Value) (m0 : List Int), e = .returned (x0) ∧ Own 3 .i64 w.heap.size w' x0 m0 ∧ (∀ y ∈ m0, (Lit.int .i64 y).wf = true) ∧ m0.length ≤ 100 ∧ Below w.heap.size w w'

set_option maxHeartbeats 1000000 in
theorem drawDigest (w : World) (v : Value) (l : List UInt8) (hb : Frame.Bytes w v l) :
    Calls Try.prog 14 #[v] w (QDrawDigest w) := by
  have h := new w v l hb
  have HN0 := Lib.hid h; clear h hb
  go_enter Try.func14, Try.ntmps14
  go_wp2_with fail
  refine HN0.out.mono ?_
  rintro e w1 ⟨rfl, hc⟩
  have C := Lib.hid hc; clear hc
  have C0 := C
  have h := words w w.heap.size v l _ C.out
  have HD := Lib.hid h; clear h
  go_wp2_with fail
  refine HD.out.mono ?_
  rintro e w2 ⟨y, rfl, ⟨m2, ho, m2y, m21⟩, hc, hk⟩
  replace C := Lib.hid hc; clear hc hk HD
  replace ho := ho.mono (Nat.succ_le_of_lt C0.out.lt)
  have Hm2y := Lib.hid m2y; clear m2y C0
  have Ox1 := Lib.hid ho; clear ho
  have h := one w w.heap.size v l _ C.out
  have HD := Lib.hid h; clear h
  go_wp2_with fail
  refine HD.out.mono ?_
  rintro e w3 ⟨y, rfl, ⟨a3, rfl, a3w⟩, hc, hk⟩
  replace Ox1 := Lib.hid (own_keep Ox1.out hk (Nat.lt_succ_self _))
  replace C := Lib.hid hc; clear hc hk HD
  have Ha3w := Lib.hid a3w; clear a3w
  go_wp2_with (at_builtin; refine wpList_app (k := .i64) (B := w.heap.size + 1) (l := m2) (m := [a3]) rfl _ _ rfl Try.underlying24 elemINT rfl rfl rfl (Ox1.out.on ((Below.refl _ _).alloc (Nat.le_refl _) _)) (holds_one .i64 _ _ _) ?_ (by decide) ?_ ?_)
  · simp; omega
  · have := C.out.lt; simp; omega
  intro vz wz ho hg
  have hbz : Below w.heap.size w wz := ((C.out.below).alloc C.out.below.size _).grown hg (by have := C.out.below.size; simp; omega) (fun g hh => by have := (Ox1.out.lt g hh).1; omega)
  have HZ := Lib.hid (And.intro ho hbz); clear ho hg hbz
  go_wp2_with fail
  go_ret
  exact ⟨_, _, rfl, HZ.out.1.mono (Nat.le_succ _), fun y hy => by
    rcases List.mem_append.1 hy with h | h
    · exact Hm2y.out y h
    · obtain rfl : y = a3 := by simpa using h
      exact Ha3w.out, by rw [List.length_append, List.length_singleton]; omega, HZ.out.2⟩

def QDrawComputeMAC (w : World) (e : Ending) (w' : World) : Prop := ∃ (n0 : Int) (x1 : Value) (m1 : List Int), e = .returned (.tuple #[.int .i64 n0, x1]) ∧ (Lit.int .i64 n0).wf = true ∧ Own 3 .i64 w.heap.size w' x1 m1 ∧ (∀ y ∈ m1, (Lit.int .i64 y).wf = true) ∧ m1.length ≤ 100 ∧ Below w.heap.size w w'

set_option maxHeartbeats 1000000 in
theorem drawComputeMAC (w : World) (v : Value) (l : List UInt8) (hb : Frame.Bytes w v l) :
    Calls Try.prog 13 #[v] w (QDrawComputeMAC w) := by
  have h := new w v l hb
  have HN0 := Lib.hid h; clear h hb
  go_enter Try.func13, Try.ntmps13
  go_wp2_with fail
  refine HN0.out.mono ?_
  rintro e w1 ⟨rfl, hc⟩
  have C := Lib.hid hc; clear hc
  have h := word w w.heap.size v l _ C.out
  have HD := Lib.hid h; clear h
  go_wp2_with fail
  refine HD.out.mono ?_
  rintro e w2 ⟨y, rfl, ⟨a1, rfl, a1w⟩, hc, hk⟩
  replace C := Lib.hid hc; clear hc hk HD
  have Ha1w := Lib.hid a1w; clear a1w
  have C0 := C
  have h := words w w.heap.size v l _ C.out
  have HD := Lib.hid h; clear h
  go_wp2_with fail
  refine HD.out.mono ?_
  rintro e w3 ⟨y, rfl, ⟨m3, ho, m3y, m31⟩, hc, hk⟩
  replace C := Lib.hid hc; clear hc hk HD
  replace ho := ho.mono (Nat.succ_le_of_lt C0.out.lt)
  have Hm3y := Lib.hid m3y; clear m3y C0
  have Ox2 := Lib.hid ho; clear ho
  go_wp2_with fail
  go_ret2
  exact ⟨_, _, m3, rfl, Ha1w.out, Ox2.out.mono (Nat.le_succ _), Hm3y.out, by omega, C.out.below⟩

def QDrawValidSecret (w : World) (e : Ending) (w' : World) : Prop := ∃ (n0 : Int), e = .returned (.int .i64 n0) ∧ (Lit.int .i64 n0).wf = true ∧ Below w.heap.size w w'

set_option maxHeartbeats 1000000 in
theorem drawValidSecret (w : World) (v : Value) (l : List UInt8) (hb : Frame.Bytes w v l) :
    Calls Try.prog 15 #[v] w (QDrawValidSecret w) := by
  have h := new w v l hb
  have HN0 := Lib.hid h; clear h hb
  go_enter Try.func15, Try.ntmps15
  go_wp2_with fail
  refine HN0.out.mono ?_
  rintro e w1 ⟨rfl, hc⟩
  have C := Lib.hid hc; clear hc
  have h := word w w.heap.size v l _ C.out
  have HD := Lib.hid h; clear h
  go_wp2_with fail
  refine HD.out.mono ?_
  rintro e w2 ⟨y, rfl, ⟨a1, rfl, a1w⟩, hc, hk⟩
  replace C := Lib.hid hc; clear hc hk HD
  have Ha1w := Lib.hid a1w; clear a1w
  go_wp2_with fail
  go_ret
  exact ⟨_, rfl, Ha1w.out, C.out.below⟩

def QDrawBytesToInts (w : World) (e : Ending) (w' : World) : Prop := ∃ (x0 : Value) (m0 : List Int), e = .returned (x0) ∧ Own 5 .u8 w.heap.size w' x0 m0 ∧ Byt m0 ∧ m0.length ≤ 100 ∧ Below w.heap.size w w'

set_option maxHeartbeats 1000000 in
theorem drawBytesToInts (w : World) (v : Value) (l : List UInt8) (hb : Frame.Bytes w v l) :
    Calls Try.prog 18 #[v] w (QDrawBytesToInts w) := by
  have h := new w v l hb
  have HN0 := Lib.hid h; clear h hb
  go_enter Try.func18, Try.ntmps18
  go_wp2_with fail
  refine HN0.out.mono ?_
  rintro e w1 ⟨rfl, hc⟩
  have C := Lib.hid hc; clear hc
  have h := below w w.heap.size v l _ 6 C.out
  have HD := Lib.hid h; clear h
  go_wp2_with fail
  refine HD.out.mono ?_
  rintro e w2 ⟨y, rfl, ⟨r1, rfl, hr, _⟩, hc, hk⟩
  replace C := Lib.hid hc; clear hc hk HD
  have r1b := hr (by omega); clear hr
  obtain ⟨k2, rfl⟩ := Int.eq_ofNat_of_zero_le r1b.1
  have k2b : k2 < 6 := by omega
  clear r1b
  have C0 := C
  have h := bytes w w.heap.size v l _ k2 (by omega) C.out
  have HD := Lib.hid h; clear h
  go_wp2_with fail
  refine HD.out.mono ?_
  rintro e w3 ⟨y, rfl, ⟨m4, ho, m4y, m40, m41⟩, hc, hk⟩
  replace C := Lib.hid hc; clear hc hk HD
  replace ho := ho.mono (Nat.succ_le_of_lt C0.out.lt)
  have Hm4y := Lib.hid m4y; clear m4y C0
  have Ox3 := Lib.hid ho; clear ho
  go_wp2_with fail
  go_ret
  exact ⟨_, m4, rfl, Ox3.out.mono (Nat.le_succ _), Hm4y.out, by omega, C.out.below⟩

def QDrawEncrypt (w : World) (e : Ending) (w' : World) : Prop := ∃ (n0 : Int) (x1 : Value) (m1 : List Int), e = .returned (.tuple #[.int .i64 n0, x1]) ∧ (Lit.int .i64 n0).wf = true ∧ Own 5 .u8 w.heap.size w' x1 m1 ∧ Byt m1 ∧ m1.length ≤ 100 ∧ Below w.heap.size w w'

set_option maxHeartbeats 1000000 in
theorem drawEncrypt (w : World) (v : Value) (l : List UInt8) (hb : Frame.Bytes w v l) :
    Calls Try.prog 16 #[v] w (QDrawEncrypt w) := by
  have h := new w v l hb
  have HN0 := Lib.hid h; clear h hb
  go_enter Try.func16, Try.ntmps16
  go_wp2_with fail
  refine HN0.out.mono ?_
  rintro e w1 ⟨rfl, hc⟩
  have C := Lib.hid hc; clear hc
  have h := word w w.heap.size v l _ C.out
  have HD := Lib.hid h; clear h
  go_wp2_with fail
  refine HD.out.mono ?_
  rintro e w2 ⟨y, rfl, ⟨a1, rfl, a1w⟩, hc, hk⟩
  replace C := Lib.hid hc; clear hc hk HD
  have Ha1w := Lib.hid a1w; clear a1w
  have h := below w w.heap.size v l _ 8 C.out
  have HD := Lib.hid h; clear h
  go_wp2_with fail
  refine HD.out.mono ?_
  rintro e w3 ⟨y, rfl, ⟨r2, rfl, hr, _⟩, hc, hk⟩
  replace C := Lib.hid hc; clear hc hk HD
  have r2b := hr (by omega); clear hr
  obtain ⟨k3, rfl⟩ := Int.eq_ofNat_of_zero_le r2b.1
  have k3b : k3 < 8 := by omega
  clear r2b
  have C0 := C
  have h := bytes w w.heap.size v l _ k3 (by omega) C.out
  have HD := Lib.hid h; clear h
  go_wp2_with fail
  refine HD.out.mono ?_
  rintro e w4 ⟨y, rfl, ⟨m5, ho, m5y, m50, m51⟩, hc, hk⟩
  replace C := Lib.hid hc; clear hc hk HD
  replace ho := ho.mono (Nat.succ_le_of_lt C0.out.lt)
  have Hm5y := Lib.hid m5y; clear m5y C0
  have Ox4 := Lib.hid ho; clear ho
  go_wp2_with fail
  go_ret2
  exact ⟨_, _, m5, rfl, Ha1w.out, Ox4.out.mono (Nat.le_succ _), Hm5y.out, by omega, C.out.below⟩

def QDrawDeriveSecret (w : World) (e : Ending) (w' : World) : Prop := ∃ (n0 : Int) (t1 : ByteArray), e = .returned (.tuple #[.int .i64 n0, .string t1]) ∧ (Lit.int .i64 n0).wf = true ∧ t1.size ≤ 100 ∧ Below w.heap.size w w'

set_option maxHeartbeats 1000000 in
theorem drawDeriveSecret (w : World) (v : Value) (l : List UInt8) (hb : Frame.Bytes w v l) :
    Calls Try.prog 19 #[v] w (QDrawDeriveSecret w) := by
  have h := new w v l hb
  have HN0 := Lib.hid h; clear h hb
  go_enter Try.func19, Try.ntmps19
  go_wp2_with fail
  refine HN0.out.mono ?_
  rintro e w1 ⟨rfl, hc⟩
  have C := Lib.hid hc; clear hc
  have h := word w w.heap.size v l _ C.out
  have HD := Lib.hid h; clear h
  go_wp2_with fail
  refine HD.out.mono ?_
  rintro e w2 ⟨y, rfl, ⟨a1, rfl, a1w⟩, hc, hk⟩
  replace C := Lib.hid hc; clear hc hk HD
  have Ha1w := Lib.hid a1w; clear a1w
  have h := strLit2 w w.heap.size v l _ C.out [⟨#[]⟩, ⟨#[97]⟩, ⟨#[98]⟩, ⟨#[97, 98]⟩, ⟨#[110, 101, 119, 115]⟩, ⟨#[120]⟩] _ rfl 6 rfl (by decide) (by decide) 8 (by decide)
  have HD := Lib.hid h; clear h
  go_wp2_with fail
  refine HD.out.mono ?_
  rintro e w3 ⟨y, rfl, ⟨t2, rfl, t2l⟩, hc, hk⟩
  replace C := Lib.hid hc; clear hc hk HD
  go_wp2_with fail
  go_ret2
  exact ⟨_, _, rfl, Ha1w.out, (by omega), C.out.below⟩

def QDrawEqualInts (w : World) (e : Ending) (w' : World) : Prop := ∃ (x0 : Value) (m0 : List Int) (x1 : Value) (m1 : List Int), e = .returned (.tuple #[x0, x1]) ∧ Own 3 .i64 w.heap.size w' x0 m0 ∧ (∀ y ∈ m0, (Lit.int .i64 y).wf = true) ∧ m0.length ≤ 100 ∧ Own 3 .i64 w.heap.size w' x1 m1 ∧ (∀ y ∈ m1, (Lit.int .i64 y).wf = true) ∧ m1.length ≤ 100 ∧ Below w.heap.size w w'

set_option maxHeartbeats 1000000 in
theorem drawEqualInts (w : World) (v : Value) (l : List UInt8) (hb : Frame.Bytes w v l) :
    Calls Try.prog 17 #[v] w (QDrawEqualInts w) := by
  have h := new w v l hb
  have HN0 := Lib.hid h; clear h hb
  go_enter Try.func17, Try.ntmps17
  go_wp2_with fail
  refine HN0.out.mono ?_
  rintro e w1 ⟨rfl, hc⟩
  have C := Lib.hid hc; clear hc
  have C0 := C
  have h := ints w w.heap.size v l _ 4 (by omega) C.out
  have HD := Lib.hid h; clear h
  go_wp2_with fail
  refine HD.out.mono ?_
  rintro e w2 ⟨y, rfl, ⟨m2, ho, m2y, m21⟩, hc, hk⟩
  replace C := Lib.hid hc; clear hc hk HD
  replace ho := ho.mono (Nat.succ_le_of_lt C0.out.lt)
  have Hm2y := Lib.hid m2y; clear m2y C0
  have Ox1 := Lib.hid ho; clear ho
  obtain ⟨xa, xc, rfl, -, -⟩ := Ox1.out.holds.shape
  have C0 := C
  go_wp2_with (at_builtin; refine wpList_app (k := .i64) (B := w2.heap.size) (l := []) (m := m2) rfl _ _ rfl Try.underlying24 elemINT rfl rfl rfl (own_empty .i64 _ _) (Ox1.out.holds.on ((Below.refl _ _).alloc (Nat.le_refl _) _)) ?_ (by decide) ?_ ?_)
  · simp; omega
  · simp
  intro vz wz ho hg
  have hlt := C.out.lt
  have HAP := Lib.hid (Sl.Own.apart' Ox1.out (show Own 3 .i64 w2.heap.size wz vz m2 from ho) (Nat.le_refl _))
  have hgl : ∀ g, (Value.slice (some ⟨w2.heap.size, 0, none⟩) 0 0).ownBlock = some g → w2.heap.size ≤ g := fun g hh => by cases hh; exact Nat.le_refl _
  have hbz : Below w2.heap.size w2 wz := ((Below.refl _ _).alloc (Nat.le_refl _) _).grown hg (by simp) hgl
  replace Ox1 := Lib.hid (Ox1.out.on hbz); replace C := Lib.hid (C0.out.on hbz)
  have OZ := Lib.hid ((show Own 3 .i64 w2.heap.size wz vz m2 from ho).mono (Nat.succ_le_of_lt C0.out.lt)); clear ho hg hgl hbz hlt C0
  have HZy := Hm2y
  have h := below w w.heap.size v l _ 3 C.out
  have HD := Lib.hid h; clear h
  go_wp2_with fail
  refine HD.out.mono ?_
  rintro e w3 ⟨y, rfl, ⟨r3, rfl, hr, _⟩, hc, hk⟩
  replace Ox1 := Lib.hid (own_keep Ox1.out hk (Nat.lt_succ_self _))
  replace OZ := Lib.hid (own_keep OZ.out hk (Nat.lt_succ_self _))
  replace C := Lib.hid hc; clear hc hk HD
  have r3b := hr (by omega); clear hr
  obtain ⟨k4, rfl⟩ := Int.eq_ofNat_of_zero_le r3b.1
  have k4b : k4 < 3 := by omega
  clear r3b
  obtain rfl | rfl | rfl : k4 = 0 ∨ k4 = 1 ∨ k4 = 2 := by omega
  · skip
    have C0 := C
    have h := ints w w.heap.size v l _ 4 (by omega) C.out
    have HD := Lib.hid h; clear h
    go_wp2_with fail
    refine HD.out.mono ?_
    rintro e w4 ⟨y, rfl, ⟨m6, ho, m6y, m61⟩, hc, hk⟩
    replace Ox1 := Lib.hid (own_keep Ox1.out hk (Nat.lt_succ_self _))
    replace OZ := Lib.hid (own_keep OZ.out hk (Nat.lt_succ_self _))
    replace C := Lib.hid hc; clear hc hk HD
    replace ho := ho.mono (Nat.succ_le_of_lt C0.out.lt)
    have Hm6y := Lib.hid m6y; clear m6y C0
    have Ox5 := Lib.hid ho; clear ho
    go_wp2_with fail
    go_ret2
    exact ⟨_, m2, _, m6, rfl, Ox1.out.mono (Nat.le_succ _), Hm2y.out, by omega, Ox5.out.mono (Nat.le_succ _), Hm6y.out, by omega, C.out.below⟩
  · skip
    go_wp2_with (at_builtin; refine wpList_app (k := .i64) (B := w.heap.size + 1) (l := m2) (m := [1]) rfl _ _ rfl Try.underlying24 elemINT rfl rfl rfl (OZ.out.on ((Below.refl _ _).alloc (Nat.le_refl _) _)) (holds_one .i64 _ _ _) ?_ (by decide) ?_ ?_)
    · simp; omega
    · have := C.out.lt; simp; omega
    intro vy wy ho hg
    have hby : Below w.heap.size w wy := ((C.out.below).alloc C.out.below.size _).grown hg (by have := C.out.below.size; simp; omega) (fun g hh => by have := (OZ.out.lt g hh).1; omega)
    have hxy := Sl.Own.grown (Ox1.out.on ((Below.refl _ _).alloc (Nat.le_refl _) (.cells #[.int .i64 1] 3))) hg HAP.out
    skip
    have HY := Lib.hid (And.intro ho (And.intro hxy hby)); clear ho hg hby hxy
    go_wp2_with fail
    go_ret2
    exact ⟨_, _, _, _, rfl, HY.out.2.1.mono (Nat.le_succ _), Hm2y.out, by omega, HY.out.1.mono (Nat.le_succ _), fun y hy => by
      rcases List.mem_append.1 hy with h | h
      · exact Hm2y.out y h
      · obtain rfl : y = 1 := by simpa using h
        decide, by rw [List.length_append, List.length_singleton]; omega, HY.out.2.2⟩
  · skip
    go_wp2_with fail
    go_ret2
    exact ⟨_, _, _, _, rfl, Ox1.out.mono (Nat.le_succ _), Hm2y.out, by omega, OZ.out.mono (Nat.le_succ _), Hm2y.out, by omega, C.out.below⟩

end Go.Proofs.Ythcmfaipijcgdaa.Draw
