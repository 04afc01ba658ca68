/- The reference model's draws, over a cursor, up to chapter 7's. What was in memory stays as it was. -/
import Derived.Test.YtnnhgcfelkcpfaaDoorRows
import Derived.Test.YtnnhgcfelkcpfaaDoorFrame
import Derived.Test.YtnnhgcfelkcpfaaDoorNum
import Derived.WalkKit
import Derived.ProofKit
import Derived.WalkLawsBesides
import Derived.Lib.Hide
import Derived.LoopTactic
import Derived.Below
import Derived.WalkSmall
import Derived.Deep.QuietTactic
import Derived.BigQuiet
import Derived.Lib.SmallJoins
import Derived.OwnWalk
import Derived.Test.YtnnhgcfelkcpfaaDoorGives
import Derived.Test.YtnnhgcfelkcpfaaDoorAppP
import Derived.Test.YtnnhgcfelkcpfaaDoorNameLaw
import Derived.Deep.RegionLaw
import Derived.Test.YtnnhgcfelkcpfaaDoorGW
/- Contracts of the reference model's draws: a cursor over the bytes of the argument; each draw gives a number, a bool or a text within its bounds and leaves all but the cursor as it was. -/
namespace Go.Proofs.YtnnhgcfelkcpfaaDoor.Draw
open Go.ChangeShapes Go.WideShapes Go.ChangeAt Go.RowKit Go.Instr
set_option linter.unusedVariables false
set_option maxRecDepth 100000

/-- Old blocks but p are as they were. -/
structure Keep (p : Nat) (w w' : World) : Prop where
  os : w'.os = w.os
  tape : w'.tape = w.tape
  output : w'.output = w.output
  size : w.heap.size ≤ w'.heap.size
  block : ∀ k, k < w.heap.size → k ≠ p → w'.heap[k]? = w.heap[k]?

theorem Keep.refl (p : Nat) (w : World) : Keep p w w := ⟨rfl, rfl, rfl, Nat.le_refl _, fun _ _ _ => rfl⟩
theorem Keep.trans {p : Nat} {a b c : World} (h : Keep p a b) (k : Keep p b c) : Keep p a c :=
  ⟨k.os.trans h.os, k.tape.trans h.tape, k.output.trans h.output, Nat.le_trans h.size k.size, fun i hi hp => (k.block i (Nat.lt_of_lt_of_le hi h.size) hp).trans (h.block i hi hp)⟩
theorem Keep.below {B p : Nat} {w0 w w' : World} (h : Keep p w w') (hb : Below B w0 w) (hB : B ≤ p) (hw : B ≤ w.heap.size) : Below B w0 w' :=
  hb.trans ⟨h.os, h.tape, h.output, h.size, fun k hk => h.block k (by omega) (by omega)⟩
theorem Keep.of_below {p : Nat} {w w' : World} (h : Below w.heap.size w w') : Keep p w w' := ⟨h.os, h.tape, h.output, h.size, fun k hk _ => h.block k hk⟩
theorem Keep.cell {p : Nat} {w w' : World} (h : Keep p w w') {a : Addr} {v : Value} (hc : w.cell? a = some v) (hp : a.block ≠ p) : w'.cell? a = some v := by
  rw [← hc]; exact World.cell?_of_block (w := w) (h.block a.block (Frame.cell_lt hc) hp)

/-- The cursor: block p holds the slice v, a place within it, and a number. -/
structure Cur (w0 : World) (p : Nat) (v : Value) (l : List UInt8) (w : World) : Prop where
  bytes : Frame.Bytes w0 v l
  below : Below w0.heap.size w0 w
  place : w0.heap.size ≤ p
  row : ∃ i h : Int, 0 ≤ i ∧ i ≤ l.length ∧ w.heap[p]? = some (.cells #[v, .int .i64 i, .int .i64 h] 87 (0, 0))

theorem Cur.bytesNow {w0 : World} {p : Nat} {v : Value} {l : List UInt8} {w : World} (h : Cur w0 p v l w) : Frame.Bytes w v l := h.bytes.on h.below

/-- What a draw gives: a value that meets Q, the cursor anew, all else as it was. -/
def Drawn (w0 : World) (p : Nat) (v : Value) (l : List UInt8) (w : World) (Q : Value → Prop) (e : Ending) (w' : World) : Prop :=
  ∃ x, e = .returned x ∧ Q x ∧ Cur w0 p v l w' ∧ Keep p w w'

def IntIn (a b : Int) (x : Value) : Prop := ∃ n : Int, x = .int .i64 n ∧ a ≤ n ∧ n ≤ b

theorem cur_cells {w : World} {p : Nat} {a b c : Value} {t : TypeId} (h : w.heap[p]? = some (.cells #[a, b, c] t (0, 0))) :
    w.cell? ⟨p, 0, none⟩ = some a ∧ w.cell? ⟨p, 1, none⟩ = some b ∧ w.cell? ⟨p, 2, none⟩ = some c ∧ (∀ o, w.frozen? ⟨p, o, none⟩ = false) := by
  refine ⟨?_, ?_, ?_, fun o => ?_⟩ <;> simp [World.cell?, World.frozen?, h]

theorem and255 (n : Int) : 0 ≤ bits .and .i64 n 255 ∧ bits .and .i64 n 255 ≤ 255 := by
  have h255 : (BitVec.ofInt 64 255).toNat = 2 ^ 8 - 1 := by decide
  have key : (BitVec.ofInt 64 n &&& BitVec.ofInt 64 255).toNat = (n % ((2 ^ 64 : Nat) : Int)).toNat % 2 ^ 8 := by
    rw [BitVec.toNat_and, BitVec.toNat_ofInt, h255, Nat.and_two_pow_sub_one_eq_mod]
  have e : bits .and .i64 n 255 = IntKind.i64.wrap ((BitVec.ofInt 64 n &&& BitVec.ofInt 64 255).toNat : Nat) := rfl
  rw [e, key, IntKind.wrap_i64]
  omega

theorem bytes_le {w : World} {v : Value} {l : List UInt8} (h : Frame.Bytes w v l) : l.length ≤ 140737488351232 := by
  rcases h with ⟨rfl, rfl⟩ | ⟨a, cap, rfl, h1, h2, _⟩
  · simp
  · omega

theorem bytes_at {w : World} {v : Value} {l : List UInt8} (h : Frame.Bytes w v l) :
    ∃ x cap, v = .slice x l.length cap ∧ (∀ j (hj : j < l.length), ∃ b off, x = some ⟨b, off, none⟩ ∧ w.cell? ⟨b, off + j, none⟩ = some (.int .u8 l[j].toNat)) := by
  rcases h with ⟨rfl, rfl⟩ | ⟨a, cap, rfl, _, _, hc⟩
  · exact ⟨none, 0, rfl, fun j hj => absurd hj (by simp)⟩
  · refine ⟨some a, cap, rfl, fun j hj => ?_⟩
    obtain ⟨b, off, spot⟩ := a
    have hs : spot = none := by simpa [Addr.add] using World.cell?_spot (hc 0 (by omega))
    subst hs
    exact ⟨b, off, rfl, by rw [← Go.WideShapes.add_plain]; exact hc j hj⟩

theorem cur_set {w0 : World} {p : Nat} {v : Value} {l : List UInt8} {w : World} (hc : Cur w0 p v l w) {i h i' h' : Int} (hr : w.heap[p]? = some (.cells #[v, .int .i64 i, .int .i64 h] 87 (0, 0)))
    {w' : World} (h0 : 0 ≤ i') (h1 : i' ≤ l.length) (hk : Keep p w w') (hr' : w'.heap[p]? = some (.cells #[v, .int .i64 i', .int .i64 h'] 87 (0, 0))) : Cur w0 p v l w' ∧ Keep p w w' :=
  ⟨⟨hc.bytes, hk.below hc.below hc.place hc.below.size, hc.place, i', h', h0, h1, hr'⟩, hk⟩

theorem keep_set (w : World) (p o : Nat) (x : Value) : Keep p w (w.setCell ⟨p, o, none⟩ x) :=
  ⟨rfl, rfl, rfl, by simp [World.setCell], fun k _ hk => Below.heap_setCell _ _ _ _ hk⟩
theorem keep_draw (p : Nat) (w : World) (n : Nat) : Keep p w (w.drewN n) := ⟨rfl, rfl, rfl, Nat.le_refl _, fun _ _ _ => rfl⟩

theorem row_set {w : World} {p : Nat} {a b c : Value} {t : TypeId} (h : w.heap[p]? = some (.cells #[a, b, c] t (0, 0))) (x : Value) :
    (w.setCell ⟨p, 1, none⟩ x).heap[p]? = some (.cells #[a, x, c] t (0, 0)) ∧ (w.setCell ⟨p, 2, none⟩ x).heap[p]? = some (.cells #[a, b, x] t (0, 0)) := by
  constructor <;> simp [World.setCell, Array.getElem?_modify, h]

theorem row_draw {w : World} {p : Nat} {o : Obj} (h : w.heap[p]? = some o) (n : Nat) : (w.drewN n).heap[p]? = some o := h

set_option maxHeartbeats 1000000 in
theorem byte_out (w0 : World) (p : Nat) (x : Option Addr) (cap n : Nat) (l : List UInt8) (hn : l.length = n) (w : World) (hc : Cur w0 p (.slice x n cap) l w) (i h : Int) (hi0 : 0 ≤ i) (hi1 : i ≤ l.length) (hlt : ¬ i < l.length)
    (hr : w.heap[p]? = some (.cells #[.slice x n cap, .int .i64 i, .int .i64 h] 87 (0, 0))) :
    Calls Tryd.prog 75 #[.pointer (some ⟨p, 0, none⟩)] w (Drawn w0 p (.slice x n cap) l w (IntIn 0 255)) := by
  obtain ⟨c0, c1, c2, cf⟩ := cur_cells hr
  have hcmp : decide (i < (n : Int)) = false := by simp; omega
  have HC := Lib.hid hc
  have HR := Lib.hid hr
  have HI := Lib.hid (And.intro hi0 hi1)
  clear hc hr hn hi0 hi1 hlt
  go_enter Tryd.func75, Tryd.ntmps75
  go_wp2_with fail
  go_quiet (fail)
  go_wp2_with fail
  go_quiet (fail)
  go_wp2_with fail
  go_ret
  refine ⟨_, rfl, ⟨_, rfl, (and255 _).1, (and255 _).2⟩, cur_set HC.out HR.out HI.out.1 HI.out.2 ?_ (row_set HR.out _).2⟩
  exact (keep_set _ _ _ _).trans ((keep_draw _ _ _).trans (keep_draw _ _ _))

set_option maxHeartbeats 1000000 in
theorem byte_in (w0 : World) (p b off cap n : Nat) (l : List UInt8) (hn : l.length = n) (w : World) (hc : Cur w0 p (.slice (some ⟨b, off, none⟩) n cap) l w) (k : Nat) (h : Int) (hlt : k < n) (hbig : (k : Int) ≤ 140737488351232) (c : UInt8)
    (hbp : b ≠ p) (hcell : w.cell? ⟨b, off + k, none⟩ = some (.int .u8 c.toNat)) (hr : w.heap[p]? = some (.cells #[.slice (some ⟨b, off, none⟩) n cap, .int .i64 k, .int .i64 h] 87 (0, 0))) :
    Calls Tryd.prog 75 #[.pointer (some ⟨p, 0, none⟩)] w (Drawn w0 p (.slice (some ⟨b, off, none⟩) n cap) l w (IntIn 0 255)) := by
  obtain ⟨c0, c1, c2, cf⟩ := cur_cells hr
  have hcmp : (k : Int) < (n : Int) := by omega
  have HC := Lib.hid hc
  have HR := Lib.hid hr
  have HN := Lib.hid (And.intro hn hlt)
  clear hc hr hn hlt
  go_enter Tryd.func75, Tryd.ntmps75
  go_wp2_with fail
  go_quiet (fail)
  go_wp2_with fail
  go_quiet (fail)
  go_wp2_with fail
  go_quiet (fail)
  go_wp2_with fail
  go_ret
  refine ⟨_, rfl, ⟨_, rfl, (and255 _).1, (and255 _).2⟩, cur_set (i' := (k : Int) + 1) HC.out HR.out (by omega) (by have := HN.out; omega) ?_ (row_set (row_draw (row_set HR.out _).2 _) _).1⟩
  exact (keep_set _ _ _ _).trans ((keep_draw _ _ _).trans (keep_set _ _ _ _))

theorem byte (w0 : World) (p : Nat) (v : Value) (l : List UInt8) (w : World) (hc : Cur w0 p v l w) :
    Calls Tryd.prog 75 #[.pointer (some ⟨p, 0, none⟩)] w (Drawn w0 p v l w (IntIn 0 255)) := by
  obtain ⟨i, h, hi0, hi1, hr⟩ := hc.row
  obtain ⟨x, cap, rfl, hat⟩ := bytes_at hc.bytesNow
  by_cases hlt : i < l.length
  · obtain ⟨k, rfl⟩ : ∃ k : Nat, i = k := ⟨i.toNat, by omega⟩
    have hk : k < l.length := by omega
    obtain ⟨b, off, rfl, hcell⟩ := hat k hk
    refine byte_in w0 p b off cap l.length l rfl w hc k h hk (by have := bytes_le hc.bytes; omega) l[k] ?_ hcell hr
    rintro rfl
    obtain ⟨x2, cap2, e, hat2⟩ := bytes_at hc.bytes
    obtain ⟨b2, off2, rfl, h2⟩ := hat2 k hk
    simp only [Value.slice.injEq, Option.some.injEq, Addr.mk.injEq] at e
    have := Frame.cell_lt h2
    have := hc.place
    simp only at *
    omega
  · exact byte_out w0 p x cap l.length l rfl w hc i h hi0 hi1 hlt hr

/-- Remainders of drawn numbers. -/
theorem below_def (n : Int) (r : Int) : True := trivial
def BelowOf (n : Int) (x : Value) : Prop := ∃ r : Int, x = .int .i64 r ∧ (0 < n → 0 ≤ r ∧ r < n) ∧ (¬ 0 < n → r = 0)

set_option maxHeartbeats 1000000 in
theorem below (w0 : World) (p : Nat) (v : Value) (l : List UInt8) (w : World) (n : Int) (hc : Cur w0 p v l w) :
    Calls Tryd.prog 42 #[.pointer (some ⟨p, 0, none⟩), .int .i64 n] w (Drawn w0 p v l w (BelowOf n)) := by
  by_cases h0 : n ≤ 0
  · have HC := Lib.hid hc; clear hc
    go_enter Tryd.func42, Tryd.ntmps42
    go_wp2
    go_ret
    exact ⟨_, rfl, ⟨0, rfl, fun h => by omega, fun _ => rfl⟩, HC.out, Keep.refl _ _⟩
  · by_cases h1 : n ≤ 256
    · have hb := byte w0 p v l w hc
      have HB := Lib.hid hb; clear hb hc
      go_enter Tryd.func42, Tryd.ntmps42
      go_wp2_with fail
      refine HB.out.mono ?_
      rintro e w1 ⟨y, rfl, ⟨m, rfl, m0, m1⟩, hc1, hk1⟩
      have HC := Lib.hid (And.intro hc1 hk1); clear hc1 hk1
      go_wp2
      go_ret
      exact ⟨_, rfl, ⟨m % n, rfl, fun _ => ⟨Int.emod_nonneg _ (by omega), Int.emod_lt_of_pos _ (by omega)⟩, fun h => by omega⟩, HC.out.1, HC.out.2⟩
    · have hb := byte w0 p v l w hc
      have HB := Lib.hid hb; clear hb hc
      go_enter Tryd.func42, Tryd.ntmps42
      go_wp2_with fail
      refine HB.out.mono ?_
      rintro e w1 ⟨y, rfl, ⟨m, rfl, m0, m1⟩, hc1, hk1⟩
      have hb2 := byte w0 p v l w1 hc1
      have HB2 := Lib.hid hb2; have HK1 := Lib.hid hk1; clear hb2 hc1 hk1
      go_wp2_with fail
      refine HB2.out.mono ?_
      rintro e w2 ⟨y2, rfl, ⟨m2, rfl, m02, m12⟩, hc2, hk2⟩
      have hb3 := byte w0 p v l w2 hc2
      have HB3 := Lib.hid hb3; have HK2 := Lib.hid (HK1.out.trans hk2); clear hb3 hc2 hk2
      go_wp2_with fail
      refine HB3.out.mono ?_
      rintro e w3 ⟨y3, rfl, ⟨m3, rfl, m03, m13⟩, hc3, hk3⟩
      have HK3 := Lib.hid (HK2.out.trans hk3); have HC := Lib.hid hc3; clear hc3 hk3
      go_wp2
      go_ret
      exact ⟨_, rfl, ⟨_, rfl, fun _ => ⟨Int.emod_nonneg _ (by omega), Int.emod_lt_of_pos _ (by omega)⟩, fun h => by omega⟩, HC.out, HK3.out⟩

def IsBool (x : Value) : Prop := ∃ b : Bool, x = .bool b
theorem once (w0 : World) (p : Nat) (v : Value) (l : List UInt8) (w : World) (n : Int) (hc : Cur w0 p v l w) :
    Calls Tryd.prog 51 #[.pointer (some ⟨p, 0, none⟩), .int .i64 n] w (Drawn w0 p v l w IsBool) := by
  have hb := below w0 p v l w n hc
  have HB := Lib.hid hb; clear hb hc
  go_enter Tryd.func51, Tryd.ntmps51
  go_wp2_with fail
  refine HB.out.mono ?_
  rintro e w1 ⟨y, rfl, ⟨m, rfl, hm⟩, hc1, hk1⟩
  have HC := Lib.hid (And.intro hc1 hk1); clear hc1 hk1 hm
  go_wp2
  go_ret
  exact ⟨_, rfl, ⟨_, rfl⟩, HC.out.1, HC.out.2⟩

/-- One of a list's values, chosen by a draw. -/
theorem choose (w0 : World) (p : Nat) (v : Value) (l : List UInt8) (w : World) (q : Nat) (xs : List Value) (hx : 0 < xs.length) (hbig : xs.length < 1000) (hc : Cur w0 p v l w) (hq : q ≠ p)
    (hcells : ∀ j (h : j < xs.length), w.cell? ⟨q, j, none⟩ = some xs[j]) :
    ∀ e w1, Drawn w0 p v l w (BelowOf (xs.length : Int)) e w1 → ∃ j, ∃ h : j < xs.length, e = .returned (.int .i64 (j : Int)) ∧ w1.cell? ⟨q, j, none⟩ = some xs[j] ∧ Cur w0 p v l w1 ∧ Keep p w w1 := by
  rintro e w1 ⟨y, rfl, ⟨r, rfl, hr, _⟩, hc1, hk1⟩
  have hr := hr (by omega)
  obtain ⟨j, rfl⟩ : ∃ j : Nat, r = j := ⟨r.toNat, by omega⟩
  exact ⟨j, by omega, rfl, hk1.cell (hcells j (by omega)) hq, hc1, hk1⟩

set_option maxHeartbeats 1000000 in
theorem int (w0 : World) (p : Nat) (v : Value) (l : List UInt8) (w : World) (q : Nat) (xs : List Value) (n : Nat) (hn : xs.length = n) (hx : 0 < n) (hbig : n < 1000) (hc : Cur w0 p v l w) (hq : q ≠ p)
    (hcells : ∀ j (h : j < xs.length), w.cell? ⟨q, j, none⟩ = some xs[j]) :
    Calls Tryd.prog 44 #[.pointer (some ⟨p, 0, none⟩), .slice (some ⟨q, 0, none⟩) n n] w (Drawn w0 p v l w (fun x => x ∈ xs)) := by
  subst hn
  have hb := (below w0 p v l w xs.length hc).mono (choose w0 p v l w q xs hx hbig hc hq hcells)
  have HB := Lib.hid hb; clear hb hc hcells
  go_enter Tryd.func44, Tryd.ntmps44
  go_wp2_with fail
  refine HB.out.mono ?_
  rintro e w1 ⟨j, hj, rfl, hcell, hc1, hk1⟩
  have HC := Lib.hid (And.intro hc1 hk1); clear hc1 hk1
  have hji : (j : Int) < (xs.length : Int) := by omega
  go_wp2_with fail
  go_ret
  exact ⟨_, rfl, List.getElem_mem hj, HC.out.1, HC.out.2⟩

set_option maxHeartbeats 1000000 in
theorem strOf (w0 : World) (p : Nat) (v : Value) (l : List UInt8) (w : World) (q : Nat) (xs : List Value) (n : Nat) (hn : xs.length = n) (hx : 0 < n) (hbig : n < 1000) (hc : Cur w0 p v l w) (hq : q ≠ p)
    (hcells : ∀ j (h : j < xs.length), w.cell? ⟨q, j, none⟩ = some xs[j]) :
    Calls Tryd.prog 76 #[.pointer (some ⟨p, 0, none⟩), .slice (some ⟨q, 0, none⟩) n n] w (Drawn w0 p v l w (fun x => x ∈ xs)) := by
  subst hn
  have hb := (below w0 p v l w xs.length hc).mono (choose w0 p v l w q xs hx hbig hc hq hcells)
  have HB := Lib.hid hb; clear hb hc hcells
  go_enter Tryd.func76, Tryd.ntmps76
  go_wp2_with fail
  refine HB.out.mono ?_
  rintro e w1 ⟨j, hj, rfl, hcell, hc1, hk1⟩
  have HC := Lib.hid (And.intro hc1 hk1); clear hc1 hk1
  have hji : (j : Int) < (xs.length : Int) := by omega
  go_wp2_with fail
  go_ret
  exact ⟨_, rfl, List.getElem_mem hj, HC.out.1, HC.out.2⟩

theorem new_cur {w : World} {x : Option Addr} {cap n : Nat} {l : List UInt8} (hb : Frame.Bytes w (.slice x n cap) l) (hn : n = l.length) (h : Int) :
    Cur w w.heap.size (.slice x n cap) l (w.alloc (.cells #[.slice x n cap, .int .i64 0, .int .i64 h] 87)) :=
  ⟨hb, Joins.below_alloc1 _ _, Nat.le_refl _, 0, h, by omega, by omega, (MapKept.heap_alloc w _).1⟩

set_option maxHeartbeats 1000000 in
theorem new (w : World) (v : Value) (l : List UInt8) (hb : Frame.Bytes w v l) :
    Calls Tryd.prog 33 #[v] w fun e w' => e = .returned (.pointer (some ⟨w.heap.size, 0, none⟩)) ∧ Cur w w.heap.size v l w' := by
  have hle := bytes_le hb
  obtain ⟨x, cap, rfl, hat⟩ := bytes_at hb
  have HB := Lib.hid hb
  have HAT := Lib.hid hat
  obtain ⟨n, hn⟩ : ∃ n, n = l.length := ⟨_, rfl⟩
  rw [← hn] at HB hle ⊢
  have HN := Lib.hid hn
  clear hb hat hn
  go_enter Tryd.func33, Tryd.ntmps33
  go_wp2_with fail
  go_loop [3, 4] (fun hv iv => ∃ (h : Int) (k : Nat), k ≤ n ∧ hv = .int .i64 h ∧ iv = .int .i64 k) (fun _ iv => n - (intOf iv).toNat)
  case atStart => exact ⟨_, 0, by omega, rfl, rfl⟩
  case round =>
    obtain ⟨h, k, hk, rfl, rfl⟩ := hrel
    by_cases hlt : k < n
    · have hlti : (k : Int) < (n : Int) := by omega
      obtain ⟨b, off, hx, hcell⟩ := HAT.out k (by have := HN.out; omega)
      subst hx
      by_cases h4 : (k : Int) < 4000
      · go_wp2_with fail
        go_round
        case rel => exact ⟨_, k + 1, by omega, rfl, by go_num⟩
        case measure => simp [intOf]; omega
      · have h4f : decide ((k : Int) < 4000) = false := by simpa using h4
        go_wp2_with fail
        go_ret
        exact ⟨rfl, new_cur HB.out HN.out _⟩
    · have hlti : decide ((k : Int) < (n : Int)) = false := by simp; omega
      go_wp2_with fail
      go_ret
      exact ⟨rfl, new_cur HB.out HN.out _⟩
end Go.Proofs.YtnnhgcfelkcpfaaDoor.Draw
/- Contracts of the reference model's draws of numbers, over the cursor of Draw: each gives a number that fits its kind, and leaves all but the cursor as it was. -/
namespace Go.Proofs.YtnnhgcfelkcpfaaDoor.Draw
open Go.ChangeShapes Go.WideShapes Go.ChangeAt Go.RowKit Go.Instr
set_option linter.unusedVariables false
set_option maxRecDepth 100000

theorem wf_of {n : Int} (h0 : -9223372036854775808 ≤ n) (h1 : n ≤ 9223372036854775807) : (Lit.int .i64 n).wf = true := by
  have e1 : IntKind.i64.min = -9223372036854775808 := rfl
  have e2 : IntKind.i64.max = 9223372036854775807 := rfl
  simp [Lit.wf, e1, e2, h0, h1]
theorem wf64 {n : Int} (w0 : (Lit.int .i64 n).wf = true) : -9223372036854775808 ≤ n ∧ n ≤ 9223372036854775807 := by
  have e1 : IntKind.i64.min = -9223372036854775808 := rfl
  have e2 : IntKind.i64.max = 9223372036854775807 := rfl
  simpa [Lit.wf, e1, e2] using w0
theorem keep_alloc (p : Nat) (w : World) (o : Obj) : Keep p w (w.alloc o) := Keep.of_below (Joins.below_alloc1 w o)
theorem Cur.lt {w0 : World} {p : Nat} {v : Value} {l : List UInt8} {w : World} (hc : Cur w0 p v l w) : p < w.heap.size := by
  obtain ⟨i, h, _, _, hr⟩ := hc.row
  exact (Array.getElem?_eq_some_iff.1 hr).1
theorem Cur.alloc {w0 : World} {p : Nat} {v : Value} {l : List UInt8} {w : World} (hc : Cur w0 p v l w) (o : Obj) : Cur w0 p v l (w.alloc o) := by
  obtain ⟨i, h, h0, h1, hr⟩ := hc.row
  refine ⟨hc.bytes, hc.below.trans (below_le' ?_), hc.place, i, h, h0, h1, ?_⟩
  · exact (Joins.below_alloc1 w o).mono hc.below.size
  · rw [Below.heap_alloc w o p hc.lt]; exact hr
where below_le' {a b : World} {B : Nat} (h : Below B a b) : Below B a b := h

/-- The cursor and its world, whatever was laid beside it. -/
theorem Drawn.from {w0 : World} {p : Nat} {v : Value} {l : List UInt8} {w w1 : World} {Q : Value → Prop} {e : Ending} {w' : World} (h : Drawn w0 p v l w1 Q e w') (hk : Keep p w w1) : Drawn w0 p v l w Q e w' := by
  obtain ⟨x, h1, h2, h3, h4⟩ := h
  exact ⟨x, h1, h2, h3, hk.trans h4⟩
theorem Drawn.imp {w0 : World} {p : Nat} {v : Value} {l : List UInt8} {w : World} {Q R : Value → Prop} {e : Ending} {w' : World} (h : Drawn w0 p v l w Q e w') (hq : ∀ x, Q x → R x) : Drawn w0 p v l w R e w' := by
  obtain ⟨x, h1, h2, h3, h4⟩ := h
  exact ⟨x, h1, hq x h2, h3, h4⟩

def Is64 (x : Value) : Prop := ∃ n : Int, x = .int .i64 n ∧ (Lit.int .i64 n).wf = true

theorem intLit (w0 : World) (p : Nat) (v : Value) (l : List UInt8) (w : World) (hc : Cur w0 p v l w) (xs : List Int) (C : Array Value) (hC : C = (xs.map (Value.int .i64)).toArray) (n : Nat) (hn : xs.length = n) (h0 : 0 < n) (h1 : n < 1000)
    (Q : Value → Prop) (hQ : ∀ x ∈ xs, Q (.int .i64 x)) :
    Calls Tryd.prog 44 #[.pointer (some ⟨p, 0, none⟩), .slice (some ⟨w.heap.size, 0, none⟩) n n] (w.alloc (.cells C 3)) (Drawn w0 p v l w Q) := by
  subst hC
  have hlt := hc.lt
  refine (int w0 p v l _ w.heap.size (xs.map (Value.int .i64)) n (by simpa using hn) h0 h1 (hc.alloc _) (by omega) (fun j hj => ?_)).mono fun e w' h => ?_
  · rw [World.cell?_alloc_mark]; simp at hj; simp [hj]
  · refine (h.from (keep_alloc p w _)).imp fun x hx => ?_
    obtain ⟨y, hy, rfl⟩ := List.mem_map.1 hx
    exact hQ y hy

theorem strLit (w0 : World) (p : Nat) (v : Value) (l : List UInt8) (w : World) (hc : Cur w0 p v l w) (xs : List ByteArray) (C : Array Value) (hC : C = (xs.map Value.string).toArray) (n : Nat) (hn : xs.length = n) (h0 : 0 < n) (h1 : n < 1000)
    (Q : Value → Prop) (hQ : ∀ x ∈ xs, Q (.string x)) :
    Calls Tryd.prog 76 #[.pointer (some ⟨p, 0, none⟩), .slice (some ⟨w.heap.size, 0, none⟩) n n] (w.alloc (.cells C 9)) (Drawn w0 p v l w Q) := by
  subst hC
  have hlt := hc.lt
  refine (strOf w0 p v l _ w.heap.size (xs.map Value.string) n (by simpa using hn) h0 h1 (hc.alloc _) (by omega) (fun j hj => ?_)).mono fun e w' h => ?_
  · rw [World.cell?_alloc_mark]; simp at hj; simp [hj]
  · refine (h.from (keep_alloc p w _)).imp fun x hx => ?_
    obtain ⟨y, hy, rfl⟩ := List.mem_map.1 hx
    exact hQ y hy

theorem wf_lits {xs : List Int} (h : xs.all (fun n => (Lit.int .i64 n).wf) = true) : ∀ x ∈ xs, Is64 (.int .i64 x) := fun x hx => ⟨x, rfl, List.all_eq_true.1 h x hx⟩

theorem below_is64 {k : Int} (h0 : 0 < k) (h1 : k ≤ 1000000) {x : Value} (h : BelowOf k x) : Is64 x := by
  obtain ⟨r, rfl, hr, _⟩ := h
  have hr := hr h0
  exact ⟨r, rfl, wf_of (by omega) (by omega)⟩
theorem belowIs (w0 : World) (p : Nat) (v : Value) (l : List UInt8) (w : World) (n : Int) (h0 : 0 < n) (h1 : n ≤ 1000000) (hc : Cur w0 p v l w) :
    Calls Tryd.prog 42 #[.pointer (some ⟨p, 0, none⟩), .int .i64 n] w (Drawn w0 p v l w Is64) :=
  (below w0 p v l w n hc).mono fun e w' h => h.imp fun x hx => below_is64 h0 h1 hx

theorem big_no (x : Option Addr) (n cap : Nat) (w : World) (h : decide ((1048576 : Int) < (n : Int)) = false) :
    Calls Tryd.prog 5 #[.slice x n cap] w fun e w' => e = .returned (.bool false) ∧ w = w' := by
  go_enter Tryd.func5, Tryd.ntmps5
  go_wp2
  go_ret
  exact ⟨rfl, rfl⟩
theorem big_yes (x : Option Addr) (n cap : Nat) (w : World) (h : decide ((1048576 : Int) < (n : Int)) = true) :
    Calls Tryd.prog 5 #[.slice x n cap] w fun e w' => e = .returned (.bool true) ∧ w = w' := by
  go_enter Tryd.func5, Tryd.ntmps5
  go_wp2
  go_ret
  exact ⟨rfl, rfl⟩

end Go.Proofs.YtnnhgcfelkcpfaaDoor.Draw
/- Draws over the cursor that make memory: what keeps the cursor; texts out of a list. -/
namespace Go.Proofs.YtnnhgcfelkcpfaaDoor.Draw
open Go.ChangeShapes Go.WideShapes Go.ChangeAt Go.RowKit Go.Instr
set_option linter.unusedVariables false
set_option maxRecDepth 100000

/-- What a draw of something in memory gives. -/
def DrawnW (w0 : World) (p : Nat) (v : Value) (l : List UInt8) (w : World) (Q : Value → World → Prop) (e : Ending) (w' : World) : Prop :=
  ∃ x, e = .returned x ∧ Q x w' ∧ Cur w0 p v l w' ∧ Keep p w w'

theorem Keep.grown {p : Nat} {w w1 w2 : World} {row : Option Nat} (h : Keep p w w1) (hg : w1.grownBy w2 row) (hr : ∀ g, row = some g → w.heap.size ≤ g) : Keep p w w2 :=
  ⟨hg.os.trans h.os, hg.tape.trans h.tape, hg.output.trans h.output, Nat.le_trans h.size hg.size, fun k hk hp => (hg.block k (Nat.lt_of_lt_of_le hk h.size) (fun e => by have := hr k e.symm; omega)).trans (h.block k hk hp)⟩
theorem Cur.grown {w0 : World} {p : Nat} {v : Value} {l : List UInt8} {w w' : World} {row : Option Nat} (hc : Cur w0 p v l w) (hg : w.grownBy w' row) (hr : ∀ g, row = some g → w0.heap.size ≤ g ∧ g ≠ p) : Cur w0 p v l w' := by
  obtain ⟨i, h, h0, h1, hrow⟩ := hc.row
  refine ⟨hc.bytes, hc.below.grown hg hc.below.size (fun g hk => (hr g hk).1), hc.place, i, h, h0, h1, ?_⟩
  rw [hg.block p (Array.getElem?_eq_some_iff.1 hrow).1 (fun e => (hr p e.symm).2 rfl)]
  exact hrow
theorem Cur.on {w0 : World} {p : Nat} {v : Value} {l : List UInt8} {w w' : World} (hc : Cur w0 p v l w) (hb : Below w.heap.size w w') : Cur w0 p v l w' :=
  hc.grown (row := none) ⟨hb.os, hb.tape, hb.output, hb.size, fun i hi _ => hb.block i hi⟩ (fun g h => by cases h)
/-- A text of at most so many bytes. -/
def StrUpto (k : Nat) (x : Value) : Prop := ∃ t : ByteArray, x = .string t ∧ t.size ≤ k
theorem strLit2 (w0 : World) (p : Nat) (v : Value) (l : List UInt8) (w : World) (hc : Cur w0 p v l w) (xs : List ByteArray) (C : Array Value) (hC : C = (xs.map Value.string).toArray) (n : Nat) (hn : xs.length = n) (h0 : 0 < n) (h1 : n < 1000) (k : Nat) (hk : (xs.all fun t => decide (t.size ≤ k)) = true) :
    Calls Tryd.prog 76 #[.pointer (some ⟨p, 0, none⟩), .slice (some ⟨w.heap.size, 0, none⟩) n n] (w.alloc (.cells C 9)) (Drawn w0 p v l w (StrUpto k)) :=
  strLit w0 p v l w hc xs C hC n hn h0 h1 (StrUpto k) (fun x hx => ⟨x, rfl, by have := List.all_eq_true.1 hk x hx; simpa using this⟩)


/-- A text out of a list that lies in block q, in whatever world. -/
theorem strAt (w0 : World) (p : Nat) (v : Value) (l : List UInt8) (W : World) (hc : Cur w0 p v l W) (q : Nat) (hq : q ≠ p) (xs : List ByteArray) (n : Nat) (hn : xs.length = n) (h0 : 0 < n) (h1 : n < 1000) (k : Nat) (hk : (xs.all fun t => decide (t.size ≤ k)) = true)
    (hcells : ∀ j (h : j < xs.length), W.cell? ⟨q, j, none⟩ = some (.string xs[j])) :
    Calls Tryd.prog 76 #[.pointer (some ⟨p, 0, none⟩), .slice (some ⟨q, 0, none⟩) n n] W (Drawn w0 p v l W (StrUpto k)) := by
  refine (strOf w0 p v l W q (xs.map Value.string) n (by simpa using hn) h0 h1 hc hq (fun j hj => ?_)).mono fun e w' h => ?_
  · simp at hj; rw [hcells j hj]; simp
  · refine h.imp fun x hx => ?_
    obtain ⟨y, hy, rfl⟩ := List.mem_map.1 hx
    exact ⟨y, rfl, by have := List.all_eq_true.1 hk y hy; simpa using this⟩
theorem lits_at {w : World} {q : Nat} (hq : q = w.heap.size) {xs : List ByteArray} {t : TypeId} {C : Array Value} (hC : C = (xs.map Value.string).toArray) : ∀ j (h : j < xs.length), (w.alloc (.cells C t)).cell? ⟨q, j, none⟩ = some (.string xs[j]) := by
  intro j hj
  subst hC hq
  rw [World.cell?_alloc_mark]; simp [hj]
end Go.Proofs.YtnnhgcfelkcpfaaDoor.Draw
/- Contracts of the reference model's draws of byte slices and of slices of integers: what is drawn lies in memory of the call's own; all else but the cursor is as it was. -/
namespace Go.Proofs.YtnnhgcfelkcpfaaDoor.Draw
open Go.ChangeShapes Go.WideShapes Go.ChangeAt Go.RowKit Go.Instr
open Sl (Holds Own Byt nth wpList_app holds_one own_empty elemBYTE elemINT)
set_option linter.unusedVariables false
set_option maxRecDepth 100000

theorem own_keep {e : TypeId} {k : IntKind} {B p : Nat} {w w' : World} {x : Value} {m : List Int} (h : Own e k B w x m) (hk : Keep p w w') (hp : p < B) : Own e k B w' x m := by
  refine ⟨h.1, ?_⟩
  rcases h.2 with h2 | ⟨g, cap, cur, hv, hg, hh, r⟩
  · exact Or.inl h2
  · exact Or.inr ⟨g, cap, cur, hv, hg, by rw [hk.block g (Array.getElem?_eq_some_iff.1 hh).1 (by omega)]; exact hh, r⟩
theorem own_cut {e : TypeId} {k : IntKind} {B : Nat} {w : World} {g n cap : Nat} {m : List Int} (h : Own e k B w (.slice (some ⟨g, 0, none⟩) n cap) m) (hn : n = m.length) {j : Nat} (hj : j ≤ n) :
    Own e k B w (.slice (some ⟨g, 0, none⟩) j cap) (m.take j) := by
  subst hn
  have hl : (m.take j).length = j := by simp; omega
  refine ⟨by simp, ?_⟩
  rcases h.2 with ⟨hv, _⟩ | ⟨g', cap', cur, hv, hg, hh, h1, h2, h3, h4⟩
  · simp at hv
  · simp only [Value.slice.injEq, Option.some.injEq, Addr.mk.injEq, and_true, true_and] at hv
    obtain ⟨rfl, rfl⟩ := hv
    refine Or.inr ⟨g, cap, cur, by rw [hl], hg, hh, by omega, h2, h3, ?_⟩
    rw [hl, Nat.mul_one, List.map_take, ← h4, List.take_take]
    congr 1; omega
theorem byt_nil : Byt [] := fun x hx => by simp at hx
theorem byt_app {a b : List Int} (h : Byt a) (k : Byt b) : Byt (a ++ b) := fun x hx => by
  rcases List.mem_append.1 hx with h1 | h1
  · exact h x h1
  · exact k x h1
theorem byt_one {x : Int} (h0 : 0 ≤ x) (h1 : x ≤ 255) : Byt [x] := fun y hy => by
  obtain rfl : y = x := by simpa using hy
  exact ⟨h0, h1⟩
theorem byt_take {a : List Int} (h : Byt a) (j : Nat) : Byt (a.take j) := fun x hx => h x (List.mem_of_mem_take hx)
theorem byt_set {a : List Int} (h : Byt a) (j : Nat) {x : Int} (h0 : 0 ≤ x) (h1 : x ≤ 255) : Byt (a.set j x) := fun y hy => by
  rcases List.mem_or_eq_of_mem_set hy with h2 | h2
  · exact h y h2
  · subst h2; exact ⟨h0, h1⟩
/-- A slice of bytes of the call's own, so long at most. -/
def BytesIn (B a b : Nat) (x : Value) (w : World) : Prop := ∃ m, Own 5 .u8 B w x m ∧ Byt m ∧ a ≤ m.length ∧ m.length ≤ b

set_option maxHeartbeats 1000000 in
theorem bytes (w0 : World) (p : Nat) (v : Value) (l : List UInt8) (w : World) (n : Nat) (hn : n ≤ 100000) (hc : Cur w0 p v l w) :
    Calls Tryd.prog 41 #[.pointer (some ⟨p, 0, none⟩), .int .i64 n] w (DrawnW w0 p v l w (BytesIn w.heap.size n n)) := by
  have hpl := hc.lt
  have HC := Lib.hid hc
  have H0 := Lib.hid (own_empty .u8 5 w)
  have C0 := Lib.hid (And.intro (hc.alloc (.cells #[] 5)) (keep_alloc p w (.cells #[] 5)))
  clear hc
  go_enter Tryd.func41, Tryd.ntmps41
  go_wp2_with fail
  go_loopw [5, 6] (fun ov iv wr => ∃ (k : Nat) (m : List Int), k ≤ n ∧ iv = .int .i64 k ∧ m.length = k ∧ Hid (Byt m) ∧ Hid (Own 5 .u8 w.heap.size wr ov m) ∧ Hid (Cur w0 p v l wr ∧ Keep p w wr)) (fun _ iv _ => n - (intOf iv).toNat)
  case atStart => exact ⟨0, [], Nat.zero_le _, rfl, rfl, Lib.hid byt_nil, H0, C0⟩
  case round =>
    obtain ⟨k, m, hk, rfl, hm, hB, ho, hcu⟩ := hrel
    have HM := Lib.hid hm; clear hm
    by_cases hlt : k < n
    · have hb := byte w0 p v l wr hcu.out.1
      have HB := Lib.hid hb; clear hb
      go_wp2_with fail
      refine HB.out.mono ?_
      rintro e w1 ⟨y, rfl, ⟨a, rfl, a0, a1⟩, hc1, hk1⟩
      have O1 := Lib.hid (own_keep ho.out hk1 hpl)
      have C1 := Lib.hid (And.intro hc1 (hcu.out.2.trans hk1))
      clear hc1 hk1
      go_wp2_with (at_builtin; refine wpList_app (k := .u8) (B := w.heap.size) (l := m) (m := [a]) rfl _ _ rfl Tryd.underlying22 elemBYTE rfl rfl rfl (O1.out.on ((Below.refl _ _).alloc (Nat.le_refl _) _)) (holds_one .u8 _ _ _) ?_ (by decide) ?_ ?_)
      · have := HM.out; simp; omega
      · have := C1.out.2.size; simp; omega
      intro v2 w2 ho2 hg
      have hlt2 := fun g hh => (O1.out.lt g hh).1
      have hc2 := (C1.out.1.alloc (.cells #[.int .u8 a] 5)).grown hg (fun g hh => ⟨by have := hlt2 g hh; have := HC.out.below.size; omega, by have := hlt2 g hh; omega⟩)
      have hk2 := (C1.out.2.trans (keep_alloc p w1 (.cells #[.int .u8 a] 5))).grown hg hlt2
      have HO2 := Lib.hid ho2; have C2 := Lib.hid (And.intro hc2 hk2)
      clear ho2 hg hc2 hk2 hlt2
      go_wp2_with fail
      go_roundw
      case rel => exact ⟨k + 1, m ++ [a], by omega, by go_num, by rw [List.length_append, HM.out]; rfl, Lib.hid (byt_app hB.out (byt_one a0 a1)), HO2, C2⟩
      case measure => simp [intOf]; omega
    · obtain rfl : k = n := by omega
      clear hlt
      go_wp2_with fail
      go_ret
      exact ⟨_, rfl, ⟨m, ho.out, hB.out, by rw [HM.out]; omega, by rw [HM.out]; omega⟩, hcu.out.1, hcu.out.2⟩

/-- A slice of integers of the call's own. -/
def IntsIn (B b : Nat) (x : Value) (w : World) : Prop := ∃ m, Own 3 .i64 B w x m ∧ (∀ y ∈ m, (Lit.int .i64 y).wf = true) ∧ m.length ≤ b

theorem intLit2 (w0 : World) (p : Nat) (v : Value) (l : List UInt8) (w : World) (hc : Cur w0 p v l w) (xs : List Int) (C : Array Value) (hC : C = (xs.map (Value.int .i64)).toArray) (n : Nat) (hn : xs.length = n) (hx : 0 < n) (hbig : n < 1000) (a b : Int) (hab : ∀ x ∈ xs, a ≤ x ∧ x ≤ b) :
    Calls Tryd.prog 44 #[.pointer (some ⟨p, 0, none⟩), .slice (some ⟨w.heap.size, 0, none⟩) n n] (w.alloc (.cells C 3)) (Drawn w0 p v l w (IntIn a b)) :=
  intLit w0 p v l w hc xs C hC n hn hx hbig (IntIn a b) (fun x hx => ⟨x, rfl, hab x hx⟩)

set_option maxHeartbeats 2000000 in
theorem bent (w0 : World) (p : Nat) (v : Value) (l : List UInt8) (w : World) (bv : Value) (lb : List Int) (hb : Holds .u8 w bv lb) (hB : Byt lb) (hl : lb.length ≤ 1000000) (hc : Cur w0 p v l w) :
    Calls Tryd.prog 37 #[.pointer (some ⟨p, 0, none⟩), bv] w (DrawnW w0 p v l w (BytesIn w.heap.size 0 (lb.length + 1))) := by
  have hpl := hc.lt
  obtain ⟨x, cap, rfl, hcap, hh⟩ := hb.shape
  obtain ⟨n, hn⟩ : ∃ n, n = lb.length := ⟨_, rfl⟩
  rw [← hn] at hcap hh hl ⊢
  have HN := Lib.hid hn; have HH := Lib.hid hh; have HBY := Lib.hid hB; have HC := Lib.hid hc
  clear hn hh hb hB hc
  go_enter Tryd.func37, Tryd.ntmps37
  go_wp2_with (at_builtin; refine Sl.wpList_app_nn (k := .u8) (B := w.heap.size) (l := []) (m := lb) rfl _ _ rfl Tryd.underlying22 elemBYTE rfl rfl rfl (own_empty .u8 _ w) (HH.out.on ((Below.refl _ _).alloc (Nat.le_refl _) _)) ?_ (by decide) ?_ ?_)
  · have := HN.out; simp; omega
  · simp
  intro v1 w1 ho hg hnn
  have hlt1 : ∀ g, (Value.slice (some ⟨w.heap.size, 0, none⟩) 0 0).ownBlock = some g → w.heap.size ≤ g := fun g hh => by cases hh; exact Nat.le_refl _
  have hc1 := (HC.out.alloc (.cells #[] 5)).grown hg (fun g hh => ⟨by have := hlt1 g hh; have := HC.out.below.size; omega, by have := hlt1 g hh; omega⟩)
  have hk1 := (keep_alloc p w (.cells #[] 5)).grown hg hlt1
  obtain ⟨g, cap1, rfl, g1, g2, g3⟩ := ho.block hnn
  have HN1 := HN.out
  rw [← HN1] at ho g3 ⊢
  have O1 := Lib.hid ho
  have HK1 := Lib.hid hk1
  have hb6 := below w0 p v l w1 6 hc1
  have HB6 := Lib.hid hb6
  clear ho hg hnn hlt1 hc1 hk1 hb6 HN1
  go_wp2_with fail
  refine HB6.out.mono ?_
  rintro e w2 ⟨y, rfl, ⟨r, rfl, hr, _⟩, hc2, hk2⟩
  have hr := hr (by omega)
  have O2 := Lib.hid (own_keep O1.out hk2 hpl)
  have C2 := Lib.hid (And.intro hc2 (HK1.out.trans hk2))
  have gw2 : g < w2.heap.size := by have := hk2.size; omega
  clear hc2 hk2
  by_cases r0 : r = 0
  · subst r0
    clear hr
    by_cases hn0 : 0 < n
    · have hb1 := below w0 p v l w2 n C2.out.1
      have HB1 := Lib.hid hb1; clear hb1
      go_wp2_with fail
      refine HB1.out.mono ?_
      rintro e w3 ⟨y, rfl, ⟨r, rfl, hr, _⟩, hc3, hk3⟩
      have hr := hr (by omega)
      obtain ⟨j, rfl⟩ := Int.eq_ofNat_of_zero_le hr.1
      have hj : j < n := by omega
      have O3 := Lib.hid (own_keep O2.out hk3 hpl)
      have HK3 := Lib.hid (C2.out.2.trans hk3)
      have hb2 := below w0 p v l w3 256 hc3
      have HB2 := Lib.hid hb2
      clear hc3 hk3 hr hb2
      go_wp2_with fail
      refine HB2.out.mono ?_
      rintro e w4 ⟨y, rfl, ⟨z, rfl, hz, _⟩, hc4, hk4⟩
      have hz := hz (by omega)
      have O4 := Lib.hid (own_keep O3.out hk4 hpl)
      have C4 := Lib.hid (And.intro hc4 (HK3.out.trans hk4))
      clear hc4 hk4
      have hlen := HN.out
      obtain ⟨hc2, hf2⟩ := Sl.own_cell O4.out hlen (j := j) (by omega)
      obtain ⟨hs1, hs2⟩ := Sl.own_store O4.out hlen j z
      have hlt5 : ∀ g', some g = some g' → w.heap.size ≤ g' := fun g' hh => by cases hh; exact g1
      have hc5 := C4.out.1.grown hs2 (fun g' hh => ⟨by have := hlt5 g' hh; have := HC.out.below.size; omega, by have := hlt5 g' hh; omega⟩)
      have hk5 := C4.out.2.grown hs2 hlt5
      have O5 := Lib.hid hs1; have C5 := Lib.hid (And.intro hc5 hk5)
      clear hs1 hs2 hlt5 hc5 hk5 hlen
      go_wp2_with fail
      go_ret
      exact ⟨_, rfl, ⟨lb.set j z, O5.out, byt_set HBY.out j hz.1 (by omega), by omega, by rw [List.length_set]; have := HN.out; omega⟩, C5.out.1, C5.out.2⟩
    · obtain rfl : n = 0 := by omega
      clear hn0
      go_wp2_with fail
      go_ret
      exact ⟨_, rfl, ⟨lb, O2.out, HBY.out, by omega, by have := HN.out; omega⟩, C2.out.1, C2.out.2⟩
  · by_cases r1 : r = 1
    · subst r1
      clear hr r0
      have hb1 := below w0 p v l w2 ((n : Int) + 1) C2.out.1
      have HB1 := Lib.hid hb1; clear hb1
      go_wp2_with fail
      refine HB1.out.mono ?_
      rintro e w3 ⟨y, rfl, ⟨r, rfl, hr, _⟩, hc3, hk3⟩
      have hr := hr (by omega)
      obtain ⟨j, rfl⟩ := Int.eq_ofNat_of_zero_le hr.1
      have hj : j ≤ n := by omega
      have O3 := Lib.hid (own_cut (own_keep O2.out hk3 hpl) HN.out hj)
      have C3 := Lib.hid (And.intro hc3 (C2.out.2.trans hk3))
      clear hc3 hk3 hr
      go_wp2_with fail
      go_ret
      exact ⟨_, rfl, ⟨lb.take j, O3.out, byt_take HBY.out j, by omega, by rw [List.length_take]; have := HN.out; omega⟩, C3.out.1, C3.out.2⟩
    · by_cases r2 : r = 2
      · subst r2
        clear hr r0 r1
        have hb1 := intLit2 w0 p v l w2 C2.out.1 [0, 1, 128, 255] _ rfl 4 rfl (by decide) (by decide) 0 255 (by decide)
        have HB1 := Lib.hid hb1; clear hb1
        go_wp2_with fail
        refine HB1.out.mono ?_
        rintro e w3 ⟨y, rfl, ⟨a, rfl, a0, a1⟩, hc3, hk3⟩
        have O3 := Lib.hid (own_keep O2.out hk3 hpl)
        have C3 := Lib.hid (And.intro hc3 (C2.out.2.trans hk3))
        clear hc3 hk3
        go_wp2_with (at_builtin; refine wpList_app (k := .u8) (B := w.heap.size) (l := lb) (m := [a]) rfl _ _ rfl Tryd.underlying22 elemBYTE rfl rfl rfl (O3.out.on ((Below.refl _ _).alloc (Nat.le_refl _) _)) (holds_one .u8 _ _ _) ?_ (by decide) ?_ ?_)
        · have := HN.out; simp; omega
        · have := C3.out.2.size; simp; omega
        intro v4 w4 ho4 hg
        have hlt4 := fun g hh => (O3.out.lt g hh).1
        have hc4 := (C3.out.1.alloc (.cells #[.int .u8 a] 5)).grown hg (fun g hh => ⟨by have := hlt4 g hh; have := HC.out.below.size; omega, by have := hlt4 g hh; omega⟩)
        have hk4 := (C3.out.2.trans (keep_alloc p w3 (.cells #[.int .u8 a] 5))).grown hg hlt4
        have HO4 := Lib.hid ho4; have C4 := Lib.hid (And.intro hc4 hk4)
        clear ho4 hg hc4 hk4 hlt4
        go_wp2_with fail
        go_ret
        exact ⟨_, rfl, ⟨lb ++ [a], HO4.out, byt_app HBY.out (byt_one a0 a1), by omega, by rw [List.length_append, List.length_singleton]; have := HN.out; omega⟩, C4.out.1, C4.out.2⟩
      · have e0 : (r == 0) = false := by simpa using r0
        have e1 : (r == 1) = false := by simpa using r1
        have e2 : (r == 2) = false := by simpa using r2
        clear hr r0 r1 r2
        go_wp2_with fail
        go_ret
        exact ⟨_, rfl, ⟨lb, O2.out, HBY.out, by omega, by have := HN.out; omega⟩, C2.out.1, C2.out.2⟩
end Go.Proofs.YtnnhgcfelkcpfaaDoor.Draw
/- Contracts of the reference model's draws of names: what is drawn lies in memory of the call's own; all else but the cursor is as it was. -/
namespace Go.Proofs.YtnnhgcfelkcpfaaDoor.Draw
open Go.ChangeShapes Go.WideShapes Go.ChangeAt Go.RowKit Go.Instr
open Go.Proofs.YtnnhgcfelkcpfaaDoor.Row (bulk bulk_append bulk_one bulk_nil elemSTR oneStr)
open Go.Proofs.YtnnhgcfelkcpfaaDoor.Ret (NC)
set_option linter.unusedVariables false
set_option maxRecDepth 100000

theorem NC.keep {w w' : World} {g p : Nat} {u : Value} (h : NC w g u) (hk : Keep p w w') (hne : g ≠ p) : NC w' g u :=
  ⟨hk.cell h.1 hne, (World.frozen?_of_block (hk.block g h.lt hne)).trans h.2⟩
theorem rown_keep {α : Type} [Inhabited α] {enc : α → Value} {e : TypeId} {B p : Nat} {w w' : World} {x : Value} {m : List α} (h : Row.Own e enc B w x m) (hk : Keep p w w') (hp : p < B) : Row.Own e enc B w' x m := by
  refine ⟨h.1, ?_⟩
  rcases h.2 with h2 | ⟨g, cap, cur, hv, hg, hh, r⟩
  · exact Or.inl h2
  · exact Or.inr ⟨g, cap, cur, hv, hg, by rw [hk.block g (Array.getElem?_eq_some_iff.1 hh).1 (by omega)]; exact hh, r⟩
theorem NC.set_same {w : World} {g : Nat} {u : Value} (h : NC w g u) (v : Value) : NC (w.setCell ⟨g, 0, none⟩ v) g v := ⟨Ret.set_same h.1, by rw [World.frozen?_setCell]; exact h.2⟩
theorem Cur.set {w0 : World} {p : Nat} {v : Value} {l : List UInt8} {w : World} (hc : Cur w0 p v l w) {g : Nat} (hg : w0.heap.size ≤ g) (hp : g ≠ p) (u : Value) : Cur w0 p v l (w.setCell ⟨g, 0, none⟩ u) :=
  hc.grown (Ret.grownBy_set w ⟨g, 0, none⟩ u) (fun q hq => by
    have : g = q := by simpa using hq
    subst this; exact ⟨hg, hp⟩)
theorem Keep.set {p : Nat} {w w1 : World} (hk : Keep p w w1) {g : Nat} (hg : w.heap.size ≤ g) (u : Value) : Keep p w (w1.setCell ⟨g, 0, none⟩ u) :=
  hk.grown (Ret.grownBy_set w1 ⟨g, 0, none⟩ u) (fun q hq => by
    have : g = q := by simpa using hq
    subst this; exact hg)
/-- A name of the call's own, so great at most. -/
def NameIn (B K : Nat) (x : Value) (w : World) : Prop := ∃ u m, x = .agg #[u] ∧ Row.Own 9 Value.string B w u m ∧ bulk m ≤ K
theorem bulk_appN (m : List ByteArray) (s : ByteArray) : bulk (Row.appN m s) ≤ bulk m + 1 + s.size := by
  unfold Row.appN; split
  · rw [bulk_append, bulk_one]; omega
  · omega

set_option maxRecDepth 100000 in
set_option maxHeartbeats 2000000 in
theorem l4Name (w0 : World) (p : Nat) (v : Value) (l : List UInt8) (w : World) (hc : Cur w0 p v l w) :
    Calls Tryd.prog 74 #[.pointer (some ⟨p, 0, none⟩)] w (DrawnW w0 p v l w (NameIn w.heap.size 100)) := by
  have hpl := hc.lt
  have hca := (hc.alloc (.cells #[.slice none 0 0] 26)).alloc (.cells #[.slice none 0 0] 26)
  have HK0 := Lib.hid ((keep_alloc p w (.cells #[.slice none 0 0] 26)).trans (keep_alloc p _ (.cells #[.slice none 0 0] 26)))
  have HR0 := Lib.hid ((NC.new' (w := w) (.slice none 0 0) 26 rfl).alloc (.cells #[.slice none 0 0] 26))
  have HX0 := Lib.hid (NC.new' (w := w.alloc (.cells #[.slice none 0 0] 26)) (.slice none 0 0) 26 (n := w.heap.size + 1) (by simp))
  have HC0 := Lib.hid hc
  have hb := below w0 p v l _ 4 hca
  have HB := Lib.hid hb
  clear hc hca hb
  go_enter Tryd.func74, Tryd.ntmps74
  go_wp2_with fail
  refine HB.out.mono ?_
  rintro e w1 ⟨y, rfl, ⟨r, rfl, hr, _⟩, hc1, hk1⟩
  have hr := hr (by omega)
  obtain ⟨r, rfl⟩ := Int.eq_ofNat_of_zero_le hr.1
  have hr4 : r < 4 := by omega
  have HC1 := Lib.hid hc1
  have HK1 := Lib.hid (HK0.out.trans hk1)
  have HR1 := Lib.hid (NC.keep HR0.out hk1 (by omega))
  have HX1 := Lib.hid (NC.keep HX0.out hk1 (by omega))
  clear hc1 hk1 hr HB
  go_wp2_with fail
  go_loopw [4] (fun iv wr => ∃ (k j : Nat) (u : Value) (m : List ByteArray), k + j ≤ 3 ∧ iv = .int .i64 k ∧ bulk m ≤ 20 * j ∧ Hid (NC wr w.heap.size (.slice none 0 0)) ∧ Hid (NC wr (w.heap.size + 1) u) ∧ Hid (Row.Own 9 Value.string (w.heap.size + 2) wr u m) ∧ Hid (Cur w0 p v l wr) ∧ Hid (Keep p w wr)) (fun iv _ => (intOf iv).toNat)
  case atStart => exact ⟨r, 0, _, [], by omega, rfl, by rw [bulk_nil]; omega, HR1, HX1, Lib.hid (Row.Own.nil _ _ _ _), HC1, HK1⟩
  case round =>
    obtain ⟨k, j, u, m, hkj, rfl, hm, hR, hX, hO, hC, hK⟩ := hrel
    obtain ⟨x, n, c, rfl, hn, hcap, ho⟩ := hO.out.shapeN
    clear hn
    have hx1 := hX.out.1
    have hx2 := hX.out.2
    by_cases hk0 : 0 < k
    · have hal : Below wr.heap.size wr (wr.alloc (.cells #[.string { data := #[97] }, .string { data := #[98] }, .string { data := #[110, 101, 119, 115] }, .string { data := #[120, 45, 49] }, .string { data := #[49] }, .string { data := #[107, 101, 121] }] 9)).drew := ((Below.refl _ _).alloc (Nat.le_refl _) _).drew
      have HCA := Lib.hid (hC.out.on hal)
      have HKA := Lib.hid (hK.out.trans (Keep.of_below (p := p) hal))
      have HRA := Lib.hid (hR.out.on hal)
      have HXA := Lib.hid (hX.out.on hal)
      have HOA := Lib.hid (ho.on hal)
      have hxA : (wr.alloc (.cells #[.string { data := #[97] }, .string { data := #[98] }, .string { data := #[110, 101, 119, 115] }, .string { data := #[120, 45, 49] }, .string { data := #[49] }, .string { data := #[107, 101, 121] }] 9)).cell? ⟨w.heap.size + 1, 0, none⟩ = some (.slice x n c) := HXA.out.1
      have hpr := hC.out.lt
      have hwp : w.heap.size ≠ p := by omega
      have hwp1 : w.heap.size + 1 ≠ p := by omega
      have hwp2 : p < w.heap.size + 2 := by omega
      have hbm : bulk m ≤ 10000000 := by omega
      clear ho hal
      go_wp2_with fail
      go_region_with (first | (go_at_call 76; refine (strAt w0 p v l (wr.alloc (.cells #[.string { data := #[97] }, .string { data := #[98] }, .string { data := #[110, 101, 119, 115] }, .string { data := #[120, 45, 49] }, .string { data := #[49] }, .string { data := #[107, 101, 121] }] 9)).drew HCA.out wr.heap.size (by omega) [{ data := #[97] }, { data := #[98] }, { data := #[110, 101, 119, 115] }, { data := #[120, 45, 49] }, { data := #[49] }, { data := #[107, 101, 121] }] 6 rfl (by decide) (by decide) 8 (by decide) (fun j h => lits_at rfl rfl j h)).mono ?_; rintro e w2 ⟨y2, rfl, ⟨t2, rfl, ht2⟩, hc2, hk2⟩; have ht2b : t2.size ≤ 10000000 := Nat.le_trans ht2 (by decide); have HC2 := Lib.hid hc2; have HK2 := Lib.hid (HKA.out.trans hk2); have HR2 := Lib.hid (NC.keep HRA.out hk2 hwp); have HX2 := Lib.hid (NC.keep HXA.out hk2 hwp1); have hxc2 := HX2.out.1; have HO2 := Lib.hid (rown_keep HOA.out hk2 hwp2); clear hc2 hk2) | (go_at_call 89; refine (Row.specAppendPart (.slice x n c) m t2 w2 HO2.out.holds hbm ht2b).mono ?_; rintro e w3 ⟨v3, rfl, ho3, hb3⟩; obtain ⟨x3, n3, c3, rfl, -, -, ho3⟩ := ho3.shapeN; have HC3 := Lib.hid (HC2.out.on hb3); have HK3 := Lib.hid (HK2.out.trans (Keep.of_below hb3)); have HR3 := Lib.hid (HR2.out.on hb3); have HX3 := Lib.hid (HX2.out.on hb3); have HO3 := Lib.hid ho3; have hx3 := HX3.out.1; have hx4 := HX3.out.2; clear ho3 hb3))
      all_goals
        have hlt2 := HX2.out.lt
        have hov := (HO3.out.mono (B' := w.heap.size + 2) (by omega)).grown (Ret.grownBy_set w3 ⟨w.heap.size + 1, 0, none⟩ (.slice x3 n3 c3)) (Row.nb (HO3.out.mono (B' := w.heap.size + 2) (by omega)) (b := w.heap.size + 1) (by omega))
        have HO4 := Lib.hid hov
        have HC4 := Lib.hid (HC3.out.set (g := w.heap.size + 1) (by have := HC0.out.below.size; omega) (by omega) (.slice x3 n3 c3))
        have HK4 := Lib.hid (HK3.out.set (g := w.heap.size + 1) (by omega) (.slice x3 n3 c3))
        have HR4 := Lib.hid (HR3.out.other (a := ⟨w.heap.size + 1, 0, none⟩) (by show w.heap.size + 1 ≠ w.heap.size; omega) (.slice x3 n3 c3))
        have HX4 := Lib.hid (NC.set_same HX3.out (.slice x3 n3 c3))
        have hbk := bulk_appN m t2
        clear hov hlt2
        go_wp2_with fail
        go_roundw
        case rel => exact ⟨k - 1, j + 1, _, _, by omega, by first | go_num | (congr 1; omega), by omega, HR4, HX4, HO4, HC4, HK4⟩
        case measure => simp only [intOf]; omega
    · obtain rfl : k = 0 := by omega
      obtain ⟨hk2, hf2⟩ := hR.out
      obtain ⟨q1, q2, q3⟩ : (wr.setCell ⟨w.heap.size, 0, none⟩ (.slice x n c)).cell? ⟨w.heap.size, 0, none⟩ = some (.slice x n c) ∧ Row.Own 9 Value.string w.heap.size (wr.setCell ⟨w.heap.size, 0, none⟩ (.slice x n c)) (.slice x n c) m ∧ (Cur w0 p v l (wr.setCell ⟨w.heap.size, 0, none⟩ (.slice x n c)) ∧ Keep p w (wr.setCell ⟨w.heap.size, 0, none⟩ (.slice x n c))) :=
        ⟨Ret.set_same hk2, (ho.grown (Ret.grownBy_set wr ⟨w.heap.size, 0, none⟩ (.slice x n c)) (Row.nb ho (b := w.heap.size) (by omega))).mono (by omega), hC.out.set HC0.out.below.size (by omega) _, hK.out.set (Nat.le_refl _) _⟩
      have HQ1 := Lib.hid q1; have HQ2 := Lib.hid q2; have HQ3 := Lib.hid q3
      clear q1 q2 q3 ho
      go_wp2
      refine bodyPost_ret (Ret.results_c rfl _ _ w.heap.size [_] rfl Row.aggN (Ret.one HQ1.out)) rfl ?_
      exact ⟨_, rfl, ⟨_, m, rfl, HQ2.out, by omega⟩, HQ3.out.1, HQ3.out.2⟩

end Go.Proofs.YtnnhgcfelkcpfaaDoor.Draw
/- Contracts of the reference model's draws of names that may be wrong: what is drawn lies in memory of the call's own; all else but the cursor is as it was. -/
namespace Go.Proofs.YtnnhgcfelkcpfaaDoor.Draw
open Go.ChangeShapes Go.WideShapes Go.ChangeAt Go.RowKit Go.Instr
open Go.Proofs.YtnnhgcfelkcpfaaDoor.Row (bulk bulk_append bulk_one bulk_nil elemSTR oneStr)
open Go.Proofs.YtnnhgcfelkcpfaaDoor.Ret (NC)
set_option linter.unusedVariables false
set_option maxRecDepth 100000

/-- append to a slice of strings of the call's own, as a step of a statement that draws its order. -/
theorem step_app {P : Program} {ops : Array Oper} {o : Oper} {a : Act} {w : World} {K : Act → World → Prop} {Q : Exit → Act → World → Prop} {E : Prop} {α : Type} [Inhabited α] {enc : α → Value} {e t : TypeId} {bytes : Nat} {z : Value}
    (hg : o.guard = none) (s x : Operand) (hop : o.op = Op.call { callee := Callee.builtin Builtin.append, args := #[s, x], argTypes := #[t, t] }) (ht : P.underlying t = some (.slice e)) (hi : Row.Elem P e z bytes) (hz : z.cells.size = 1)
    {B : Nat} {v : Value} {ad : Addr} {n c : Nat} {l m : List α} (hs : a.eval s = v) (hx : a.eval x = .slice (some ad) n c) (hown : Row.Own e enc B w v l) (hsrc : Row.Holds enc w (.slice (some ad) n c) m) (h1c : ∀ x, (enc x).oneCell' = true) (hlen : (l.length + m.length) * bytes ≤ 140737488355328) (hmx : l.length + m.length ≤ maxLen) (hB : B ≤ w.heap.size)
    (hK : ∀ v' w', Row.Own e enc B w' v' (l ++ m) → w.grownBy w' v.ownBlock → K (a.put o.dst v') w') :
    if Region.wanted o (yielded ops a.tmps) = true then Oper.wp P o a w K Q else E := by
  have hw : Region.wanted o (yielded ops a.tmps) = true := by simp [Region.wanted, hg]
  rw [if_pos hw]
  obtain ⟨i, h1, h2, h3, h4⟩ := info_parts hi
  obtain rfl := hsrc.lenEq
  obtain ⟨v', w', hrun, r1, r2, _⟩ := run_append_own (P := P) w B t o.type e i z 1 bytes ht h1 h2 h3 h4 hz (by decide) v l.length (l.map enc) hown ad m.length c (m.map enc) (by simp) hsrc.cells (Row.oneCell h1c m) hmx hlen hB
  unfold Oper.wp
  simp [execOp, hop, resolve, invoke, builtin, hs, hx, hrun, Result.andThen]
  refine hK v' w' ?_ r2
  unfold Row.Own
  rw [List.length_append, List.map_append]; exact r1

/-- The length of the slice that lies in block g. -/
def lenAt (w : World) (g : Nat) : Nat := match w.cell? ⟨g, 0, none⟩ with
  | some (.slice _ n _) => n
  | _ => 0
theorem lenAt_of {w : World} {g : Nat} {x : Option Addr} {n c : Nat} (h : w.cell? ⟨g, 0, none⟩ = some (.slice x n c)) : lenAt w g = n := by simp [lenAt, h]

theorem box_keep {w w' : World} {g p : Nat} {u : Value} {t : TypeId} (h : Ret.Box w g u t) (hk : Keep p w w') (hne : g ≠ p) : Ret.Box w' g u t := (hk.block g h.lt hne).trans h
/-- The last store of a draw that gives a name. -/
theorem endA {w0 : World} {p : Nat} {v : Value} {l : List UInt8} {w W : World} {g : Nat} {s : Value} {m : List ByteArray} (hc0 : Cur w0 p v l w) (hgw : w.heap.size < g) (hwp : w.heap.size ≠ p)
    (ho : Row.Own 9 Value.string (w.heap.size + 1) W s m) (hc : Cur w0 p v l W) (hk : Keep p w W) (hr : NC W w.heap.size (.slice none 0 0)) :
    (W.setCell ⟨w.heap.size, 0, none⟩ s).cell? ⟨w.heap.size, 0, none⟩ = some s ∧ Row.Own 9 Value.string w.heap.size (W.setCell ⟨w.heap.size, 0, none⟩ s) s m ∧ Cur w0 p v l (W.setCell ⟨w.heap.size, 0, none⟩ s) ∧ Keep p w (W.setCell ⟨w.heap.size, 0, none⟩ s) :=
  ⟨Ret.set_same hr.1, (ho.grown (Ret.grownBy_set W ⟨w.heap.size, 0, none⟩ s) (Row.nb ho (b := w.heap.size) (by omega))).mono (by omega), hc.set hc0.below.size hwp _, hk.set (Nat.le_refl _) _⟩

/-- Behind an append whose slice is stored back into the variable g. -/
theorem storeA {w0 : World} {p : Nat} {v : Value} {l : List UInt8} {w w3 w4 : World} {g : Nat} {s s4 u : Value} {m m4 : List ByteArray} (hc0 : Cur w0 p v l w) (hgw : w.heap.size < g) (hgp : g ≠ p) (hwp : w.heap.size ≠ p) (hpw : p < w.heap.size + 1)
    (ho3 : Row.Own 9 Value.string (w.heap.size + 1) w3 s m) (hc : Cur w0 p v l w3) (hk : Keep p w w3) (hr : NC w3 w.heap.size (.slice none 0 0)) (hg : w3.grownBy w4 s.ownBlock) (ho : Row.Own 9 Value.string (w.heap.size + 1) w4 s4 m4) (hx : Ret.Box w4 g u 26) :
    Row.Own 9 Value.string (w.heap.size + 1) (w4.setCell ⟨g, 0, none⟩ s4) s4 m4 ∧ Cur w0 p v l (w4.setCell ⟨g, 0, none⟩ s4) ∧ Keep p w (w4.setCell ⟨g, 0, none⟩ s4) ∧ NC (w4.setCell ⟨g, 0, none⟩ s4) w.heap.size (.slice none 0 0) ∧ Ret.Box (w4.setCell ⟨g, 0, none⟩ s4) g s4 26 := by
  have hlt := fun q hq => (ho3.lt q hq).1
  have h0 := hc0.below.size
  refine ⟨ho.grown (Ret.grownBy_set w4 ⟨g, 0, none⟩ s4) (Or.inr fun e => Row.Own.notBox ho hx (by decide) e.symm), (hc.grown hg (fun q hq => ⟨by have := hlt q hq; omega, by have := hlt q hq; omega⟩)).set (by omega) hgp _, (hk.grown hg (fun q hq => by have := hlt q hq; omega)).set (by omega) _, ?_, hx.set s4⟩
  exact (hr.grown hg (fun e => by have := hlt _ e.symm; omega)).other (a := ⟨g, 0, none⟩) (by show g ≠ w.heap.size; omega) _

set_option maxRecDepth 100000 in
set_option maxHeartbeats 4000000 in
theorem l4Any (w0 : World) (p : Nat) (v : Value) (l : List UInt8) (w : World) (hc : Cur w0 p v l w) :
    Calls Tryd.prog 43 #[.pointer (some ⟨p, 0, none⟩)] w (DrawnW w0 p v l w (NameIn w.heap.size 1000)) := by
  have hpl := hc.lt
  have HB := Lib.hid (l4Name w0 p v l _ (hc.alloc (.cells #[.slice none 0 0] 26)))
  have HK0 := Lib.hid (keep_alloc p w (.cells #[.slice none 0 0] 26))
  have HR0 := Lib.hid (NC.new' (w := w) (.slice none 0 0) 26 rfl)
  have HC0 := Lib.hid hc
  have hwp : w.heap.size ≠ p := by omega
  clear hc
  go_enter Tryd.func43, Tryd.ntmps43
  go_wp2_with fail
  refine HB.out.mono ?_
  rintro e w1 ⟨y, rfl, ⟨u, m, rfl, ho, hm⟩, hc1, hk1⟩
  obtain ⟨x, n, c, rfl, hn, hcap, ho⟩ := ho.shapeN
  have hz1 := hk1.size
  simp only [World.size_alloc] at hz1 ho
  have hal : Below w1.heap.size w1 (w1.alloc (.cells #[.slice x n c] 26)) := (Below.refl _ _).alloc (Nat.le_refl _) _
  have HC1 := Lib.hid (hc1.on hal)
  have HK1 := Lib.hid ((HK0.out.trans hk1).trans (Keep.of_below (p := p) hal))
  have HR1 := Lib.hid ((NC.keep HR0.out hk1 hwp).on hal)
  have HX1 := Lib.hid (Ret.Box.new' (w := w1) (.slice x n c) 26 rfl)
  have HO1 := Lib.hid (ho.on hal)
  have hb := below w0 p v l _ 8 HC1.out
  have HB2 := Lib.hid hb
  obtain ⟨g, hg⟩ : ∃ g, g = w1.heap.size := ⟨_, rfl⟩
  have hgp : g ≠ p := by have := hc1.lt; omega
  have hgw : w.heap.size < g := by omega
  have hpw : p < w.heap.size + 1 := by omega
  have hnm : n ≤ 100 := by have := Row.bigLen hm; omega
  have HN := Lib.hid hn
  clear hc1 hk1 ho hal hb HB hn
  go_wp2_with fail
  rw [← hg] at HX1 ⊢
  refine HB2.out.mono ?_
  rintro e w2 ⟨y, rfl, ⟨r, rfl, hr, _⟩, hc2, hk2⟩
  have hr := hr (by omega)
  obtain ⟨r, rfl⟩ := Int.eq_ofNat_of_zero_le hr.1
  have HC2 := Lib.hid hc2
  have HK2 := Lib.hid (HK1.out.trans hk2)
  have HR2 := Lib.hid (NC.keep HR1.out hk2 hwp)
  have HX2 := Lib.hid (box_keep HX1.out hk2 hgp)
  have HO2 := Lib.hid (rown_keep HO1.out hk2 hpw)
  clear hc2 hk2 HB2 HC1 HK1 HR1 HX1 HO1 hg
  by_cases h0 : r = 0
  · subst h0
    have hx2 := HX2.out.cell
    have hx3 := HX2.out.frozen
    have hal : Below w2.heap.size w2 (w2.alloc (.cells #[.string { data := #[] }, .string { data := #[65] }, .string { data := #[116, 111, 111, 108, 111, 110, 103, 120, 120] }, .string { data := #[97, 47, 98] }, .string { data := #[32] }, .string { data := #[101, 105, 103, 104, 116, 56, 56, 56] }] 9)).drew := ((Below.refl _ _).alloc (Nat.le_refl _) _).drew
    have HCA := Lib.hid (HC2.out.on hal)
    have HKA := Lib.hid (HK2.out.trans (Keep.of_below (p := p) hal))
    have HRA := Lib.hid (HR2.out.on hal)
    have HXA := Lib.hid (HX2.out.on hal)
    have HOA := Lib.hid (HO2.out.on hal)
    have hxA : (w2.alloc (.cells #[.string { data := #[] }, .string { data := #[65] }, .string { data := #[116, 111, 111, 108, 111, 110, 103, 120, 120] }, .string { data := #[97, 47, 98] }, .string { data := #[32] }, .string { data := #[101, 105, 103, 104, 116, 56, 56, 56] }] 9)).cell? ⟨g, 0, none⟩ = some (.slice x n c) := HXA.out.cell
    have hpr := HC2.out.lt
    have HLM := Lib.hid (show (m.length + 1) * 16 ≤ 140737488355328 by rw [← HN.out]; omega)
    have HLX := Lib.hid (show m.length + 1 ≤ maxLen by rw [← HN.out]; unfold maxLen; omega)
    clear hal
    go_wp2_with fail
    go_region_law (first | (refine step_app (enc := Value.string) (B := w.heap.size + 1) (l := m) (m := [t3]) rfl _ _ (by rfl) Tryd.underlying24 elemSTR rfl (by rfl) (by rfl) HO3A.out (Row.holds_one Value.string 9 w3 t3) oneStr HLM.out HLX.out hB3 ?_; intro v4 w4 ho4 hg4; obtain ⟨x4, n4, c4, rfl, hn4, hcc4, ho4⟩ := ho4.shapeN; have HO4 := Lib.hid ho4; have HG4 := Lib.hid hg4; have HX4 := Lib.hid ((HX3.out.on ((Below.refl _ _).alloc (Nat.le_refl _) (.cells #[.string t3] 9))).grown hg4 (Row.Own.notBox HO3A.out (HX3.out.on ((Below.refl _ _).alloc (Nat.le_refl _) (.cells #[.string t3] 9))) (by decide))); have hx4 := HX4.out.cell; have hx5 := HX4.out.frozen; clear ho4 hg4 hn4) | (go_simp; go_at_call 76; refine (strAt w0 p v l (w2.alloc (.cells #[.string { data := #[] }, .string { data := #[65] }, .string { data := #[116, 111, 111, 108, 111, 110, 103, 120, 120] }, .string { data := #[97, 47, 98] }, .string { data := #[32] }, .string { data := #[101, 105, 103, 104, 116, 56, 56, 56] }] 9)).drew HCA.out w2.heap.size (by omega) [{ data := #[] }, { data := #[65] }, { data := #[116, 111, 111, 108, 111, 110, 103, 120, 120] }, { data := #[97, 47, 98] }, { data := #[32] }, { data := #[101, 105, 103, 104, 116, 56, 56, 56] }] 6 rfl (by decide) (by decide) 20 (by decide) (fun j h => lits_at rfl rfl j h)).mono ?_; rintro e w3 ⟨y3, rfl, ⟨t3, rfl, ht3⟩, hc3, hk3⟩; have HC3 := Lib.hid hc3; have HK3 := Lib.hid (HKA.out.trans hk3); have HR3 := Lib.hid (NC.keep HRA.out hk3 hwp); have HX3 := Lib.hid (box_keep HXA.out hk3 hgp); have HO3 := Lib.hid (rown_keep HOA.out hk3 hpw); have HO3A := Lib.hid (HO3.out.on ((Below.refl _ _).alloc (Nat.le_refl _) (.cells #[.string t3] 9))); have hxc3 := HX3.out.cell; have hxa3 := (HX3.out.on ((Below.refl _ _).alloc (Nat.le_refl _) (.cells #[.string t3] 9))).cell; have hB3 : w.heap.size + 1 ≤ (w3.alloc (.cells #[.string t3] 9)).heap.size := (by have := HX3.out.lt; simp; omega); clear hc3 hk3))
    all_goals
      have HZ5 := Lib.hid (storeA HC0.out hgw hgp hwp hpw HO3A.out (HC3.out.on ((Below.refl _ _).alloc (Nat.le_refl _) _)) (HK3.out.trans (keep_alloc p w3 _)) (HR3.out.alloc _) HG4.out HO4.out HX4.out)
      have HO5 := Lib.hid HZ5.out.1
      have HC5 := Lib.hid HZ5.out.2.1
      have HK5 := Lib.hid HZ5.out.2.2.1
      have HR5 := Lib.hid HZ5.out.2.2.2.1
      have HX5 := Lib.hid HZ5.out.2.2.2.2
      clear hx2 hx3 hxA hxc3 hxa3 hx4 hx5 HZ5
      obtain ⟨hk8, hf8⟩ := HR5.out
      have hx8 := HX5.out.cell
      have HZ := Lib.hid (endA HC0.out hgw hwp HO5.out HC5.out HK5.out HR5.out)
      go_wp2_with fail
      refine bodyPost_ret (Ret.results_c rfl _ _ w.heap.size [_] rfl Row.aggN (Ret.one HZ.out.1)) rfl ?_
      exact ⟨_, rfl, ⟨_, _, rfl, HZ.out.2.1, by first | omega | (rw [bulk_append, bulk_one]; omega)⟩, HZ.out.2.2.1, HZ.out.2.2.2⟩
  · have h0b : ((r : Int) == 0) = false := by simpa using h0
    by_cases h1 : r = 1
    · subst h1
      have hx2 := HX2.out.cell
      have hbn : bulk m ≤ 100 + 2 * n := by omega
      have hnm2 : n ≤ 107 := by omega
      have HI := Lib.hid HX2.out.cell
      clear hx2 hm hnm
      go_wp2_with fail
      go_loopw [] (fun wr => ∃ (x : Option Addr) (n c : Nat) (m : List ByteArray), n ≤ 107 ∧ bulk m ≤ 100 + 2 * n ∧ lenAt wr g = n ∧ Hid (n = m.length) ∧ Hid (NC wr w.heap.size (.slice none 0 0)) ∧ Hid (Ret.Box wr g (.slice x n c) 26) ∧ Hid (Row.Own 9 Value.string (w.heap.size + 1) wr (.slice x n c) m) ∧ Hid (Cur w0 p v l wr) ∧ Hid (Keep p w wr)) (fun wr => 200 - lenAt wr g)
      case atStart => exact ⟨x, n, c, m, hnm2, hbn, lenAt_of HI.out, HN, HR2, HX2, HO2, HC2, HK2⟩
      case round =>
        obtain ⟨x, n, c, m, hn7, hbn, hla, HN, HR, HX, HO, HC, HK⟩ := hrel
        have HLA := Lib.hid hla
        have hx := HX.out.cell
        have hdr : Below wr.heap.size wr wr.drew := (Below.refl _ _).drew
        have HCD := Lib.hid (HC.out.on hdr)
        have HKD := Lib.hid (HK.out.trans (Keep.of_below (p := p) hdr))
        have HRD := Lib.hid (HR.out.on hdr)
        have HXD := Lib.hid (HX.out.on hdr)
        have HOD := Lib.hid (HO.out.on hdr)
        clear hla hdr
        go_wp2_with fail
        go_region_held3 (fun w' => w'.cell? ⟨g, 0, none⟩ = some (.slice x n c)) (first | exact HXD.out.cell | exact hxc3) ((go_at_call 42; refine (below w0 p v l wr.drew 3 HCD.out).mono ?_; rintro e w3 ⟨y, rfl, ⟨q, rfl, hq, hq2⟩, hc3, hk3⟩; have hxc3 := (box_keep HXD.out hk3 hgp).cell))
        have hq := hq (by omega)
        have HC3 := Lib.hid hc3
        have HK3 := Lib.hid (HKD.out.trans hk3)
        have HR3 := Lib.hid (NC.keep HRD.out hk3 hwp)
        have HX3 := Lib.hid (box_keep HXD.out hk3 hgp)
        have HO3 := Lib.hid (rown_keep HOD.out hk3 hpw)
        have hwq : IntKind.i64.wrap (5 + q) = 5 + q := by rw [IntKind.wrap_i64]; omega
        obtain ⟨q0, q1⟩ := hq
        clear hc3 hk3 hq2 hx
        rw [hwq]
        clear hwq
        by_cases hlt : (n : Int) < 5 + q
        · have HO3A := Lib.hid (HO3.out.on ((Below.refl _ _).alloc (Nat.le_refl _) (.cells #[.string { data := #[109] }] 9)))
          have HX3A := Lib.hid (HX3.out.on ((Below.refl _ _).alloc (Nat.le_refl _) (.cells #[.string { data := #[109] }] 9)))
          have HLM := Lib.hid (show (m.length + ([{ data := #[109] }] : List ByteArray).length) * 16 ≤ 140737488355328 by rw [← HN.out]; simp; omega)
          have HLX := Lib.hid (show m.length + ([{ data := #[109] }] : List ByteArray).length ≤ maxLen by rw [← HN.out]; unfold maxLen; simp; omega)
          have hB3 : w.heap.size + 1 ≤ (w3.alloc (.cells #[.string { data := #[109] }] 9)).heap.size := by have := HX3.out.lt; simp; omega
          go_wp2_with (at_builtin; refine Row.wpList_app (enc := Value.string) (B := w.heap.size + 1) (l := m) (m := [{ data := #[109] }]) rfl _ _ rfl Tryd.underlying24 elemSTR rfl rfl rfl HO3A.out (Row.holds_one Value.string 9 w3 _) oneStr HLM.out HLX.out hB3 ?_)
          intro v4 w4 ho4 hg4
          obtain ⟨x4, n4, c4, rfl, hn4, hcc4, ho4⟩ := ho4.shapeN
          have HX4 := Lib.hid (HX3A.out.grown hg4 (Row.Own.notBox HO3A.out HX3A.out (by decide)))
          have hx4 := HX4.out.cell
          have hx5 := HX4.out.frozen
          have HZ5 := Lib.hid (storeA HC0.out hgw hgp hwp hpw HO3A.out (HC3.out.on ((Below.refl _ _).alloc (Nat.le_refl _) _)) (HK3.out.trans (keep_alloc p w3 _)) (HR3.out.alloc _) hg4 ho4 HX4.out)
          have hn4' : n4 = n + 1 := by rw [hn4, List.length_append, HN.out]; rfl
          have HN4 := Lib.hid hn4
          have HNE := Lib.hid hn4'
          have hbk : bulk (m ++ [{ data := #[109] }]) ≤ 100 + 2 * (n + 1) := by
            rw [bulk_append, bulk_one]
            have : (ByteArray.mk #[109]).size = 1 := rfl
            omega
          clear ho4 hg4 hn4 hxc3 hn4'
          go_wp2_with fail
          go_roundw
          case rel => exact ⟨x4, n4, c4, _, by rw [HNE.out]; omega, by rw [HNE.out]; exact hbk, lenAt_of HZ5.out.2.2.2.2.cell, HN4, Lib.hid HZ5.out.2.2.2.1, Lib.hid HZ5.out.2.2.2.2, Lib.hid HZ5.out.1, Lib.hid HZ5.out.2.1, Lib.hid HZ5.out.2.2.1⟩
          case measure => rw [lenAt_of HZ5.out.2.2.2.2.cell, HLA.out, HNE.out]; omega
        · clear hxc3
          obtain ⟨hk8, hf8⟩ := HR3.out
          have hx8 := HX3.out.cell
          have HZ := Lib.hid (endA HC0.out hgw hwp HO3.out HC3.out HK3.out HR3.out)
          go_wp2_with fail
          refine bodyPost_ret (Ret.results_c rfl _ _ w.heap.size [_] rfl Row.aggN (Ret.one HZ.out.1)) rfl ?_
          exact ⟨_, rfl, ⟨_, _, rfl, HZ.out.2.1, by first | omega | (rw [bulk_append, bulk_one]; omega)⟩, HZ.out.2.2.1, HZ.out.2.2.2⟩
    · have h1b : ((r : Int) == 1) = false := beq_eq_false_iff_ne.2 (by omega)
      clear h0 h1
      obtain ⟨hk8, hf8⟩ := HR2.out
      have hx8 := HX2.out.cell
      have HZ := Lib.hid (endA HC0.out hgw hwp HO2.out HC2.out HK2.out HR2.out)
      go_wp2_with fail
      refine bodyPost_ret (Ret.results_c rfl _ _ w.heap.size [_] rfl Row.aggN (Ret.one HZ.out.1)) rfl ?_
      exact ⟨_, rfl, ⟨_, _, rfl, HZ.out.2.1, by omega⟩, HZ.out.2.2.1, HZ.out.2.2.2⟩

end Go.Proofs.YtnnhgcfelkcpfaaDoor.Draw
/- Contracts of the reference model's draws of interests. What was in memory stays as it was, but for the cursor. -/
namespace Go.Proofs.YtnnhgcfelkcpfaaDoor.Draw
open Go.ChangeShapes Go.WideShapes Go.ChangeAt Go.RowKit Go.Instr
open Go.Proofs.YtnnhgcfelkcpfaaDoor.Row (bulk bulk_append bulk_one bulk_nil bulk_cons wc Wt aggW)
open Go.Proofs.YtnnhgcfelkcpfaaDoor.Ret (NC Blk)
set_option linter.unusedVariables false
set_option maxRecDepth 100000

/-- An interest's numbers are small. -/
def smI (a b c : Int) : Prop := (-1 ≤ a ∧ a ≤ 1000001) ∧ (-1 ≤ b ∧ b ≤ 17) ∧ (0 ≤ c ∧ c ≤ 21)
def WantIn (B K : Nat) (x : Value) (w : World) : Prop := ∃ u m a b c, x = .agg (wc u a b c) ∧ Row.Own 9 Value.string B w u m ∧ bulk m ≤ K ∧ smI a b c
theorem blk_keep {w w' : World} {g p : Nat} {cs : Array Value} {t : TypeId} (h : Blk w g cs t) (hk : Keep p w w') (hne : g ≠ p) : Blk w' g cs t := (hk.block g h.lt hne).trans h
theorem Cur.setI {w0 : World} {p : Nat} {v : Value} {l : List UInt8} {w : World} (hc : Cur w0 p v l w) {g : Nat} (i : Nat) (hg : w0.heap.size ≤ g) (hp : g ≠ p) (u : Value) : Cur w0 p v l (w.setCell ⟨g, i, none⟩ u) :=
  hc.grown (Ret.grownBy_set w ⟨g, i, none⟩ u) (fun q hq => by
    have : q = g := by simpa using hq.symm
    exact ⟨by omega, by omega⟩)
theorem Keep.setI {p : Nat} {w w1 : World} (hk : Keep p w w1) {g : Nat} (i : Nat) (hg : w.heap.size ≤ g) (u : Value) : Keep p w (w1.setCell ⟨g, i, none⟩ u) :=
  hk.grown (Ret.grownBy_set w1 ⟨g, i, none⟩ u) (fun q hq => by
    have : q = g := by simpa using hq.symm
    omega)
/-- The last store of a draw that gives an interest. -/
theorem endDW {w0 : World} {p : Nat} {v : Value} {l : List UInt8} {w W : World} {s s1 : Value} {a b c a1 b1 c1 : Int} {m : List ByteArray} (hc0 : Cur w0 p v l w) (hwp : w.heap.size ≠ p)
    (ho : Row.Own 9 Value.string (w.heap.size + 1) W s m) (hc : Cur w0 p v l W) (hk : Keep p w W) (hr : Blk W w.heap.size (wc s1 a1 b1 c1) 28) :
    Blk ((((W.setCell ⟨w.heap.size, 0, none⟩ s).setCell ⟨w.heap.size, 1, none⟩ (.int .i64 a)).setCell ⟨w.heap.size, 2, none⟩ (.int .i64 b)).setCell ⟨w.heap.size, 3, none⟩ (.int .i64 c)) w.heap.size (wc s a b c) 28 ∧ Row.Own 9 Value.string w.heap.size ((((W.setCell ⟨w.heap.size, 0, none⟩ s).setCell ⟨w.heap.size, 1, none⟩ (.int .i64 a)).setCell ⟨w.heap.size, 2, none⟩ (.int .i64 b)).setCell ⟨w.heap.size, 3, none⟩ (.int .i64 c)) s m ∧ Cur w0 p v l ((((W.setCell ⟨w.heap.size, 0, none⟩ s).setCell ⟨w.heap.size, 1, none⟩ (.int .i64 a)).setCell ⟨w.heap.size, 2, none⟩ (.int .i64 b)).setCell ⟨w.heap.size, 3, none⟩ (.int .i64 c)) ∧ Keep p w ((((W.setCell ⟨w.heap.size, 0, none⟩ s).setCell ⟨w.heap.size, 1, none⟩ (.int .i64 a)).setCell ⟨w.heap.size, 2, none⟩ (.int .i64 b)).setCell ⟨w.heap.size, 3, none⟩ (.int .i64 c)) := by
  have hlt : w.heap.size < w.heap.size + 1 := Nat.lt_succ_self _
  have h0 := hc0.below.size
  exact ⟨(((hr.set 0 s).set 1 (.int .i64 a)).set 2 (.int .i64 b)).set 3 (.int .i64 c), (Row.own_set (Row.own_set (Row.own_set (Row.own_set ho hlt) hlt) hlt) hlt).mono (Nat.le_of_lt hlt), (((hc.setI 0 h0 hwp s).setI 1 h0 hwp (.int .i64 a)).setI 2 h0 hwp (.int .i64 b)).setI 3 h0 hwp (.int .i64 c), (((hk.setI 0 (Nat.le_refl _) s).setI 1 (Nat.le_refl _) (.int .i64 a)).setI 2 (Nat.le_refl _) (.int .i64 b)).setI 3 (Nat.le_refl _) (.int .i64 c)⟩
/-- A box is left by the last store. -/
theorem box4 {W : World} {g q : Nat} {u s : Value} {a b c : Int} {t : TypeId} (h : Ret.Box W g u t) (hne : g ≠ q) : Ret.Box ((((W.setCell ⟨q, 0, none⟩ s).setCell ⟨q, 1, none⟩ (.int .i64 a)).setCell ⟨q, 2, none⟩ (.int .i64 b)).setCell ⟨q, 3, none⟩ (.int .i64 c)) g u t :=
  (((h.grown (Ret.grownBy_set _ ⟨q, 0, none⟩ s) (fun e => hne (Option.some.inj e))).grown (Ret.grownBy_set _ ⟨q, 1, none⟩ (.int .i64 a)) (fun e => hne (Option.some.inj e))).grown (Ret.grownBy_set _ ⟨q, 2, none⟩ (.int .i64 b)) (fun e => hne (Option.some.inj e))).grown (Ret.grownBy_set _ ⟨q, 3, none⟩ (.int .i64 c)) (fun e => hne (Option.some.inj e))

set_option maxHeartbeats 8000000 in
theorem l7Draw (w0 : World) (p : Nat) (v : Value) (l : List UInt8) (w : World) (hc : Cur w0 p v l w) :
    Calls Tryd.prog 38 #[.pointer (some ⟨p, 0, none⟩)] w (DrawnW w0 p v l w (WantIn w.heap.size 1000)) := by
  have hpl := hc.lt
  have hca := hc.alloc (.cells (wc (.slice none 0 0) 0 0 0) 28)
  have HK0 := Lib.hid (keep_alloc p w (.cells (wc (.slice none 0 0) 0 0 0) 28))
  have HR0 := Lib.hid (Blk.new w (wc (.slice none 0 0) 0 0 0) 28)
  have HC0 := Lib.hid hc
  have HD := Lib.hid (l4Name w0 p v l _ hca)
  clear hc hca
  go_enter Tryd.func38, Tryd.ntmps38
  go_wp2_with fail
  refine HD.out.mono ?_
  rintro e w1 ⟨y, rfl, ⟨u, m, rfl, ho, hm⟩, hc1, hk1⟩
  obtain ⟨x, n, c, rfl, hn, -, ho⟩ := ho.shapeN
  have hz1 := hk1.size
  simp only [World.size_alloc] at hz1 ho
  have hal : Below w1.heap.size w1 (w1.alloc (.cells #[.slice x n c] 26)) := (Below.refl _ _).alloc (Nat.le_refl _) _
  have HC1 := Lib.hid (hc1.on hal)
  have HK1 := Lib.hid ((HK0.out.trans hk1).trans (Keep.of_below (p := p) hal))
  have HR1 := Lib.hid ((blk_keep HR0.out hk1 (by omega)).on hal)
  have HX1 := Lib.hid (Ret.Box.new w1 (.slice x n c) 26)
  have HO1 := Lib.hid (ho.on hal)
  have hgp : w1.heap.size ≠ p := by have := hc1.lt; omega
  have hgw : w1.heap.size ≠ w.heap.size := by omega
  have hwp : w.heap.size ≠ p := by omega
  have hpw : p < w.heap.size + 1 := by omega
  have hwg : w.heap.size ≤ w1.heap.size := by omega
  have HN := Lib.hid hn
  clear hal ho hc1 hk1 hn HD HR0 HK0 hz1
  go_upto_region 2 with fail
  generalize w1.alloc (.cells #[.slice x n c] 26) = W at *
  generalize w1.heap.size = g at *
  have hx1 := HX1.out.cell
  have hxf := HX1.out.frozen
  by_cases hn0 : n = 0
  · subst hn0
    have hal2 : Below W.heap.size W (W.alloc (.cells #[.string { data := #[97] }] 9)) := (Below.refl _ _).alloc (Nat.le_refl _) _
    have hgl := HX1.out.lt
    have hx2 : (W.alloc (.cells #[.string { data := #[97] }] 9)).cell? ⟨g, 0, none⟩ = some (.slice x 0 c) := (HX1.out.on hal2).cell
    have hx3 : (W.alloc (.cells #[.string { data := #[97] }] 9)).frozen? ⟨g, 0, none⟩ = false := (HX1.out.on hal2).frozen
    have hzs : (W.setCell ⟨g, 0, none⟩ (.slice (some ⟨W.heap.size, 0, none⟩) 1 1)).heap.size = W.heap.size := by simp [World.setCell]
    have hal3 : Below (W.setCell ⟨g, 0, none⟩ (.slice (some ⟨W.heap.size, 0, none⟩) 1 1)).heap.size (W.setCell ⟨g, 0, none⟩ (.slice (some ⟨W.heap.size, 0, none⟩) 1 1)) ((W.setCell ⟨g, 0, none⟩ (.slice (some ⟨W.heap.size, 0, none⟩) 1 1)).alloc (.cells #[.string { data := #[97] }] 9)) := (Below.refl _ _).alloc (Nat.le_refl _) _
    have HCA := Lib.hid ((HC1.out.setI 0 (Nat.le_trans HC0.out.below.size hwg) hgp (.slice (some ⟨W.heap.size, 0, none⟩) 1 1)).on hal3)
    have HKA := Lib.hid ((HK1.out.setI 0 hwg (.slice (some ⟨W.heap.size, 0, none⟩) 1 1)).trans (Keep.of_below (p := p) hal3))
    have HRA := Lib.hid ((HR1.out.grown (Ret.grownBy_set _ ⟨g, 0, none⟩ (.slice (some ⟨W.heap.size, 0, none⟩) 1 1)) (fun e => hgw (Option.some.inj e).symm)).on hal3)
    have HXA := Lib.hid ((HX1.out.set (.slice (some ⟨W.heap.size, 0, none⟩) 1 1)).on hal3)
    have hoa := (Row.own_one Value.string 9 (W.setCell ⟨g, 0, none⟩ (.slice (some ⟨W.heap.size, 0, none⟩) 1 1)) { data := #[97] }).mono (B' := w.heap.size + 1) (by rw [hzs]; have := HR1.out.lt; omega)
    rw [hzs] at hoa
    have HOA := Lib.hid hoa
    have HBM : Hid (bulk [({ data := #[97] } : ByteArray)] ≤ 1000) := Lib.hid (by rw [bulk_one]; decide)
    clear hal2 hal3 hzs hoa
    go_upto_region 4 with fail
    generalize (W.setCell ⟨g, 0, none⟩ (.slice (some ⟨W.heap.size, 0, none⟩) 1 1)).alloc (.cells #[.string { data := #[97] }] 9) = V at *
    have hdr : Below V.heap.size V V.drew := (Below.refl _ _).drew
    have HCD := Lib.hid (HCA.out.on hdr); have HKD := Lib.hid (HKA.out.trans (Keep.of_below (p := p) hdr)); have HRD := Lib.hid (HRA.out.on hdr); have HXD := Lib.hid (HXA.out.on hdr); have HOD := Lib.hid (HOA.out.on hdr)
    clear hdr HC1 HK1 HR1 HX1 HO1 HCA HKA HRA HXA HOA hx2 hx3 hx1 hxf
    have hxd := HXD.out.cell
    go_wp2_with fail
    go_region_held3 (fun w' => w'.cell? ⟨g, 0, none⟩ = some (.slice (some ⟨W.heap.size, 0, none⟩) 1 1)) (first | with_reducible exact HXD.out.cell | with_reducible exact HX3.out.cell | with_reducible exact HX4.out.cell | with_reducible exact HX5.out.cell | with_reducible exact HX6.out.cell) (first | (go_at_call 42; refine (below w0 p v l _ 6 HC4.out).mono ?_; rintro e w5 ⟨y5, rfl, ⟨r5, rfl, hr5, -⟩, hc5, hk5⟩; have hr5 := hr5 (by omega); have hw5 : IntKind.i64.wrap (1 + r5) = 1 + r5 := (by rw [IntKind.wrap_i64]; omega); have HX5 := Lib.hid (box_keep HX4.out hk5 hgp); have HC5 := Lib.hid hc5; have HK5 := Lib.hid (HK4.out.trans hk5); have HO5 := Lib.hid (rown_keep HO4.out hk5 hpw); have HR5 := Lib.hid (blk_keep HR4.out hk5 hwp); have r0 := HR5.out.cell 0; have r1 := HR5.out.cell 1; have r2 := HR5.out.cell 2; have r3 := HR5.out.cell 3; have t0 := HR5.out.frozen 0; have t1 := HR5.out.frozen 1; have t2 := HR5.out.frozen 2; have t3 := HR5.out.frozen 3; have HX6 := Lib.hid (box4 (s := (.slice (some ⟨W.heap.size, 0, none⟩) 1 1)) (a := q3) (b := q4) (c := 1 + r5) HX5.out hgw); simp only [wc, List.getElem?_toArray, List.getElem?_cons_zero, List.getElem?_cons_succ] at r0 r1 r2 r3; clear hc5 hk5) | (go_at_call 42; refine (below w0 p v l _ 5 HC3.out).mono ?_; rintro e w4 ⟨y4, rfl, ⟨q4, rfl, hr4, -⟩, hc4, hk4⟩; have hr4 := hr4 (by omega); have HX4 := Lib.hid (box_keep HX3.out hk4 hgp); have HC4 := Lib.hid hc4; have HK4 := Lib.hid (HK3.out.trans hk4); have HO4 := Lib.hid (rown_keep HO3.out hk4 hpw); have HR4 := Lib.hid (blk_keep HR3.out hk4 hwp); clear hc4 hk4) | (go_at_call 42; refine (below w0 p v l _ 9 HCD.out).mono ?_; rintro e w3 ⟨y3, rfl, ⟨q3, rfl, hr3, -⟩, hc3, hk3⟩; have hr3 := hr3 (by omega); have HX3 := Lib.hid (box_keep HXD.out hk3 hgp); have HC3 := Lib.hid hc3; have HK3 := Lib.hid (HKD.out.trans hk3); have HO3 := Lib.hid (rown_keep HOD.out hk3 hpw); have HR3 := Lib.hid (blk_keep HRD.out hk3 hwp); clear hc3 hk3))
    all_goals
      obtain ⟨z1, z2, z3, z4⟩ := endDW (s := (.slice (some ⟨W.heap.size, 0, none⟩) 1 1)) (a := q3) (b := q4) (c := 1 + r5) HC0.out hwp HO5.out HC5.out HK5.out HR5.out
      have Z1 := Lib.hid z1; have Z2 := Lib.hid z2; have Z3 := Lib.hid z3; have Z4 := Lib.hid z4
      clear z1 z2 z3 z4
      go_wp2_with fail
      refine bodyPost_ret (Ret.results_c rfl _ _ w.heap.size (wc (.slice (some ⟨W.heap.size, 0, none⟩) 1 1) q3 q4 (1 + r5)).toList rfl aggW Z1.out.cells) rfl ?_
      exact ⟨_, rfl, ⟨_, [({ data := #[97] } : ByteArray)], q3, q4, 1 + r5, rfl, Z2.out, HBM.out, by unfold smI; omega⟩, Z3.out, Z4.out⟩
  · have hne : ((n : Int) == 0) = false := by simpa using hn0
    have hdr : Below W.heap.size W W.drew := (Below.refl _ _).drew
    have HCD := Lib.hid (HC1.out.on hdr); have HKD := Lib.hid (HK1.out.trans (Keep.of_below (p := p) hdr)); have HRD := Lib.hid (HR1.out.on hdr); have HXD := Lib.hid (HX1.out.on hdr); have HOD := Lib.hid (HO1.out.on hdr)
    have HBM : Hid (bulk m ≤ 1000) := Lib.hid (by omega)
    clear hdr HC1 HK1 HR1 HO1 hn0
    have hxd := HXD.out.cell
    go_wp2_with fail
    go_region_held3 (fun w' => w'.cell? ⟨g, 0, none⟩ = some (.slice x n c)) (first | with_reducible exact HXD.out.cell | with_reducible exact HX3.out.cell | with_reducible exact HX4.out.cell | with_reducible exact HX5.out.cell | with_reducible exact HX6.out.cell) (first | (go_at_call 42; refine (below w0 p v l _ 6 HC4.out).mono ?_; rintro e w5 ⟨y5, rfl, ⟨r5, rfl, hr5, -⟩, hc5, hk5⟩; have hr5 := hr5 (by omega); have hw5 : IntKind.i64.wrap (1 + r5) = 1 + r5 := (by rw [IntKind.wrap_i64]; omega); have HX5 := Lib.hid (box_keep HX4.out hk5 hgp); have HC5 := Lib.hid hc5; have HK5 := Lib.hid (HK4.out.trans hk5); have HO5 := Lib.hid (rown_keep HO4.out hk5 hpw); have HR5 := Lib.hid (blk_keep HR4.out hk5 hwp); have r0 := HR5.out.cell 0; have r1 := HR5.out.cell 1; have r2 := HR5.out.cell 2; have r3 := HR5.out.cell 3; have t0 := HR5.out.frozen 0; have t1 := HR5.out.frozen 1; have t2 := HR5.out.frozen 2; have t3 := HR5.out.frozen 3; have HX6 := Lib.hid (box4 (s := (.slice x n c)) (a := q3) (b := q4) (c := 1 + r5) HX5.out hgw); simp only [wc, List.getElem?_toArray, List.getElem?_cons_zero, List.getElem?_cons_succ] at r0 r1 r2 r3; clear hc5 hk5) | (go_at_call 42; refine (below w0 p v l _ 5 HC3.out).mono ?_; rintro e w4 ⟨y4, rfl, ⟨q4, rfl, hr4, -⟩, hc4, hk4⟩; have hr4 := hr4 (by omega); have HX4 := Lib.hid (box_keep HX3.out hk4 hgp); have HC4 := Lib.hid hc4; have HK4 := Lib.hid (HK3.out.trans hk4); have HO4 := Lib.hid (rown_keep HO3.out hk4 hpw); have HR4 := Lib.hid (blk_keep HR3.out hk4 hwp); clear hc4 hk4) | (go_at_call 42; refine (below w0 p v l _ 9 HCD.out).mono ?_; rintro e w3 ⟨y3, rfl, ⟨q3, rfl, hr3, -⟩, hc3, hk3⟩; have hr3 := hr3 (by omega); have HX3 := Lib.hid (box_keep HXD.out hk3 hgp); have HC3 := Lib.hid hc3; have HK3 := Lib.hid (HKD.out.trans hk3); have HO3 := Lib.hid (rown_keep HOD.out hk3 hpw); have HR3 := Lib.hid (blk_keep HRD.out hk3 hwp); clear hc3 hk3))
    all_goals
      obtain ⟨z1, z2, z3, z4⟩ := endDW (s := (.slice x n c)) (a := q3) (b := q4) (c := 1 + r5) HC0.out hwp HO5.out HC5.out HK5.out HR5.out
      have Z1 := Lib.hid z1; have Z2 := Lib.hid z2; have Z3 := Lib.hid z3; have Z4 := Lib.hid z4
      clear z1 z2 z3 z4
      go_wp2_with fail
      refine bodyPost_ret (Ret.results_c rfl _ _ w.heap.size (wc (.slice x n c) q3 q4 (1 + r5)).toList rfl aggW Z1.out.cells) rfl ?_
      exact ⟨_, rfl, ⟨_, m, q3, q4, 1 + r5, rfl, Z2.out, HBM.out, by unfold smI; omega⟩, Z3.out, Z4.out⟩
end Go.Proofs.YtnnhgcfelkcpfaaDoor.Draw
namespace Go.Proofs.YtnnhgcfelkcpfaaDoor.Row
theorem own_setb {α : Type} [Inhabited α] {enc : α → Value} {e : TypeId} {B g i : Nat} {w : World} {v u : Value} {l : List α} (h : Own e enc B w v l) (hg : ∀ q, v.ownBlock = some q → q ≠ g) : Own e enc B (w.setCell ⟨g, i, none⟩ u) v l :=
  h.grown (Ret.grownBy_set w ⟨g, i, none⟩ u) (by
    cases hv : v.ownBlock with
    | none => exact Or.inl rfl
    | some q => exact Or.inr fun e => hg q hv (Option.some.inj e))
end Go.Proofs.YtnnhgcfelkcpfaaDoor.Row
namespace Go.Proofs.YtnnhgcfelkcpfaaDoor.Draw
open Go.ChangeShapes Go.WideShapes Go.ChangeAt Go.RowKit Go.Instr
open Go.Proofs.YtnnhgcfelkcpfaaDoor.Row (bulk bulk_append bulk_one bulk_nil bulk_cons wc Wt aggW)
open Go.Proofs.YtnnhgcfelkcpfaaDoor.Ret (NC Blk)
set_option linter.unusedVariables false
set_option maxRecDepth 100000

set_option maxHeartbeats 8000000 in
theorem l7Any (w0 : World) (p : Nat) (v : Value) (l : List UInt8) (w : World) (hc : Cur w0 p v l w) :
    Calls Tryd.prog 34 #[.pointer (some ⟨p, 0, none⟩)] w (DrawnW w0 p v l w (WantIn w.heap.size 1000)) := by
  have hpl := hc.lt
  have hca := hc.alloc (.cells (wc (.slice none 0 0) 0 0 0) 28)
  have HK0 := Lib.hid (keep_alloc p w (.cells (wc (.slice none 0 0) 0 0 0) 28))
  have HR0 := Lib.hid (Blk.new w (wc (.slice none 0 0) 0 0 0) 28)
  have HC0 := Lib.hid hc
  have HD := Lib.hid (l7Draw w0 p v l _ hca)
  clear hc hca
  go_enter Tryd.func34, Tryd.ntmps34
  go_wp2_with fail
  refine HD.out.mono ?_
  rintro e w1 ⟨y, rfl, ⟨u, m, a, b, c, rfl, ho, hm, hsm⟩, hc1, hk1⟩
  obtain ⟨x, n, c1, rfl, hn, -, ho⟩ := ho.shapeN
  have hz1 := hk1.size
  simp only [World.size_alloc] at hz1 ho
  have hal : Below w1.heap.size w1 (w1.alloc (.cells (wc (.slice x n c1) a b c) 28)) := (Below.refl _ _).alloc (Nat.le_refl _) _
  have HL := Lib.hid (below w0 p v l _ 12 (hc1.on hal))
  have HK1 := Lib.hid ((HK0.out.trans hk1).trans (Keep.of_below (p := p) hal))
  have HR1 := Lib.hid ((blk_keep HR0.out hk1 (by omega)).on hal)
  have HG1 := Lib.hid (Blk.new w1 (wc (.slice x n c1) a b c) 28)
  have HO1 := Lib.hid (ho.on hal)
  have HGB := Lib.hid (fun q (e : (Value.slice x n c1).ownBlock = some q) => show q ≠ w1.heap.size from fun e2 => by have h9 := (ho.lt q e).2; omega)
  have hgp : w1.heap.size ≠ p := by have := hc1.lt; omega
  have hgw : w1.heap.size ≠ w.heap.size := by omega
  have hwp : w.heap.size ≠ p := by omega
  have hpw : p < w.heap.size + 1 := by omega
  have hwg : w.heap.size ≤ w1.heap.size := by omega
  have hgs : w1.heap.size < (w1.alloc (.cells (wc (.slice x n c1) a b c) 28)).heap.size := by simp
  have HBM := Lib.hid hm
  clear hal ho hc1 hk1 hn HD HR0 HK0 hz1 hm
  go_upto_region 2 with fail
  generalize w1.alloc (.cells (wc (.slice x n c1) a b c) 28) = V at *
  generalize w1.heap.size = g at *
  go_wp2_with fail
  refine HL.out.mono ?_
  rintro e w2 ⟨y, rfl, ⟨r, rfl, hr, -⟩, hc2, hk2⟩
  have HG := Lib.hid (blk_keep HG1.out hk2 hgp)
  have HR := Lib.hid (blk_keep HR1.out hk2 hwp)
  have HO := Lib.hid (rown_keep HO1.out hk2 hpw)
  have HC := Lib.hid hc2
  have HK := Lib.hid (HK1.out.trans hk2)
  have hg2 : g < w2.heap.size := HG.out.lt
  clear hc2 hk2 hr HG1 HR1 HO1 HK1 HL hgs
  by_cases hk0 : r = 0
  · subst hk0
    have HI := Lib.hid (l4Any w0 p v l w2 HC.out)
    go_wp2_with fail
    refine HI.out.mono ?_
    rintro e w3 ⟨y, rfl, ⟨u, m2, rfl, ho, hm2⟩, hc3, hk3⟩
    obtain ⟨x2, n2, c2, rfl, hn2, -, ho⟩ := ho.shapeN
    have HG3 := Lib.hid (blk_keep HG.out hk3 hgp)
    have HR3 := Lib.hid (blk_keep HR.out hk3 hwp)
    have f0 := HG3.out.cell 0; have f1 := HG3.out.frozen 0
    simp only [wc, List.getElem?_toArray, List.getElem?_cons_zero] at f0
    replace HC := Lib.hid (hc3.setI 0 (Nat.le_trans HC0.out.below.size hwg) hgp (.slice x2 n2 c2))
    replace HK := Lib.hid ((HK.out.trans hk3).setI 0 hwg (.slice x2 n2 c2))
    replace HG := Lib.hid (HG3.out.set 0 (.slice x2 n2 c2))
    replace HR := Lib.hid (HR3.out.other (a := ⟨g, 0, none⟩) hgw (.slice x2 n2 c2))
    replace HO := Lib.hid ((Row.own_set (g := g) (i := 0) (u := .slice x2 n2 c2) ho hg2).mono (show w.heap.size + 1 ≤ w2.heap.size by omega))
    have HBM2 := Lib.hid hm2
    clear hc3 hk3 HG3 HR3 HI ho hn2 hm2
    go_upto_region 11 with fail
    generalize w3.setCell ⟨g, 0, none⟩ (.slice x2 n2 c2) = W at *
    have p0 := HG.out.cell 0; have p1 := HG.out.cell 1; have p2 := HG.out.cell 2; have p3 := HG.out.cell 3
    have r0 := HR.out.cell 0; have r1 := HR.out.cell 1; have r2 := HR.out.cell 2; have r3 := HR.out.cell 3
    have t0 := HR.out.frozen 0; have t1 := HR.out.frozen 1; have t2 := HR.out.frozen 2; have t3 := HR.out.frozen 3
    simp only [wc, List.getElem?_toArray, List.getElem?_cons_zero, List.getElem?_cons_succ] at p0 p1 p2 p3 r0 r1 r2 r3
    obtain ⟨z1, z2, z3, z4⟩ := endDW (s := (.slice x2 n2 c2)) (a := a) (b := b) (c := c) HC0.out hwp HO.out HC.out HK.out HR.out
    have Z1 := Lib.hid z1; have Z2 := Lib.hid z2; have Z3 := Lib.hid z3; have Z4 := Lib.hid z4
    clear z1 z2 z3 z4
    go_wp2_with fail
    refine bodyPost_ret (Ret.results_c rfl _ _ w.heap.size (wc (.slice x2 n2 c2) a b c).toList rfl aggW Z1.out.cells) rfl ?_
    exact ⟨_, rfl, ⟨_, m2, a, b, c, rfl, Z2.out, HBM2.out, by unfold smI at *; omega⟩, Z3.out, Z4.out⟩
  · have e0 : (r == 0) = false := by simpa using hk0
    by_cases hk1 : r = 1
    · subst hk1
      have HI := Lib.hid (intLit2 w0 p v l w2 HC.out [-1, 1000000, 1000001] _ rfl 3 rfl (by decide) (by decide) (-1) 1000001 (by decide))
      go_wp2_with fail
      refine HI.out.mono ?_
      rintro e w3 ⟨y, rfl, ⟨q, rfl, hq1, hq2⟩, hc3, hk3⟩
      have HG3 := Lib.hid (blk_keep HG.out hk3 hgp)
      have HR3 := Lib.hid (blk_keep HR.out hk3 hwp)
      have HO3 := Lib.hid (rown_keep HO.out hk3 hpw)
      have f0 := HG3.out.cell 1; have f1 := HG3.out.frozen 1
      simp only [wc, List.getElem?_toArray, List.getElem?_cons_zero, List.getElem?_cons_succ] at f0
      replace HC := Lib.hid (hc3.setI 1 (Nat.le_trans HC0.out.below.size hwg) hgp (.int .i64 q))
      replace HK := Lib.hid ((HK.out.trans hk3).setI 1 hwg (.int .i64 q))
      replace HG := Lib.hid (HG3.out.set 1 (.int .i64 q))
      replace HR := Lib.hid (HR3.out.other (a := ⟨g, 1, none⟩) hgw (.int .i64 q))
      replace HO := Lib.hid (Row.own_setb (g := g) (i := 1) (u := .int .i64 q) HO3.out HGB.out)
      clear hc3 hk3 HG3 HR3 HO3 HI
      go_upto_region 11 with fail
      generalize w3.setCell ⟨g, 1, none⟩ (.int .i64 q) = W at *
      have p0 := HG.out.cell 0; have p1 := HG.out.cell 1; have p2 := HG.out.cell 2; have p3 := HG.out.cell 3
      have r0 := HR.out.cell 0; have r1 := HR.out.cell 1; have r2 := HR.out.cell 2; have r3 := HR.out.cell 3
      have t0 := HR.out.frozen 0; have t1 := HR.out.frozen 1; have t2 := HR.out.frozen 2; have t3 := HR.out.frozen 3
      simp only [wc, List.getElem?_toArray, List.getElem?_cons_zero, List.getElem?_cons_succ] at p0 p1 p2 p3 r0 r1 r2 r3
      obtain ⟨z1, z2, z3, z4⟩ := endDW (s := (.slice x n c1)) (a := q) (b := b) (c := c) HC0.out hwp HO.out HC.out HK.out HR.out
      have Z1 := Lib.hid z1; have Z2 := Lib.hid z2; have Z3 := Lib.hid z3; have Z4 := Lib.hid z4
      clear z1 z2 z3 z4
      go_wp2_with fail
      refine bodyPost_ret (Ret.results_c rfl _ _ w.heap.size (wc (.slice x n c1) q b c).toList rfl aggW Z1.out.cells) rfl ?_
      exact ⟨_, rfl, ⟨_, m, q, b, c, rfl, Z2.out, HBM.out, by unfold smI at *; omega⟩, Z3.out, Z4.out⟩
    · have e1 : (r == 1) = false := by simpa using hk1
      by_cases hk2 : r = 2
      · subst hk2
        have HI := Lib.hid (intLit2 w0 p v l w2 HC.out [-1, 16, 17] _ rfl 3 rfl (by decide) (by decide) (-1) 17 (by decide))
        go_wp2_with fail
        refine HI.out.mono ?_
        rintro e w3 ⟨y, rfl, ⟨q, rfl, hq1, hq2⟩, hc3, hk3⟩
        have HG3 := Lib.hid (blk_keep HG.out hk3 hgp)
        have HR3 := Lib.hid (blk_keep HR.out hk3 hwp)
        have HO3 := Lib.hid (rown_keep HO.out hk3 hpw)
        have f0 := HG3.out.cell 2; have f1 := HG3.out.frozen 2
        simp only [wc, List.getElem?_toArray, List.getElem?_cons_zero, List.getElem?_cons_succ] at f0
        replace HC := Lib.hid (hc3.setI 2 (Nat.le_trans HC0.out.below.size hwg) hgp (.int .i64 q))
        replace HK := Lib.hid ((HK.out.trans hk3).setI 2 hwg (.int .i64 q))
        replace HG := Lib.hid (HG3.out.set 2 (.int .i64 q))
        replace HR := Lib.hid (HR3.out.other (a := ⟨g, 2, none⟩) hgw (.int .i64 q))
        replace HO := Lib.hid (Row.own_setb (g := g) (i := 2) (u := .int .i64 q) HO3.out HGB.out)
        clear hc3 hk3 HG3 HR3 HO3 HI
        go_upto_region 11 with fail
        generalize w3.setCell ⟨g, 2, none⟩ (.int .i64 q) = W at *
        have p0 := HG.out.cell 0; have p1 := HG.out.cell 1; have p2 := HG.out.cell 2; have p3 := HG.out.cell 3
        have r0 := HR.out.cell 0; have r1 := HR.out.cell 1; have r2 := HR.out.cell 2; have r3 := HR.out.cell 3
        have t0 := HR.out.frozen 0; have t1 := HR.out.frozen 1; have t2 := HR.out.frozen 2; have t3 := HR.out.frozen 3
        simp only [wc, List.getElem?_toArray, List.getElem?_cons_zero, List.getElem?_cons_succ] at p0 p1 p2 p3 r0 r1 r2 r3
        obtain ⟨z1, z2, z3, z4⟩ := endDW (s := (.slice x n c1)) (a := a) (b := q) (c := c) HC0.out hwp HO.out HC.out HK.out HR.out
        have Z1 := Lib.hid z1; have Z2 := Lib.hid z2; have Z3 := Lib.hid z3; have Z4 := Lib.hid z4
        clear z1 z2 z3 z4
        go_wp2_with fail
        refine bodyPost_ret (Ret.results_c rfl _ _ w.heap.size (wc (.slice x n c1) a q c).toList rfl aggW Z1.out.cells) rfl ?_
        exact ⟨_, rfl, ⟨_, m, a, q, c, rfl, Z2.out, HBM.out, by unfold smI at *; omega⟩, Z3.out, Z4.out⟩
      · have e2 : (r == 2) = false := by simpa using hk2
        by_cases hk3 : r = 3
        · subst hk3
          have HI := Lib.hid (intLit2 w0 p v l w2 HC.out [0, 20, 21] _ rfl 3 rfl (by decide) (by decide) (0) 21 (by decide))
          go_wp2_with fail
          refine HI.out.mono ?_
          rintro e w3 ⟨y, rfl, ⟨q, rfl, hq1, hq2⟩, hc3, hk3⟩
          have HG3 := Lib.hid (blk_keep HG.out hk3 hgp)
          have HR3 := Lib.hid (blk_keep HR.out hk3 hwp)
          have HO3 := Lib.hid (rown_keep HO.out hk3 hpw)
          have f0 := HG3.out.cell 3; have f1 := HG3.out.frozen 3
          simp only [wc, List.getElem?_toArray, List.getElem?_cons_zero, List.getElem?_cons_succ] at f0
          replace HC := Lib.hid (hc3.setI 3 (Nat.le_trans HC0.out.below.size hwg) hgp (.int .i64 q))
          replace HK := Lib.hid ((HK.out.trans hk3).setI 3 hwg (.int .i64 q))
          replace HG := Lib.hid (HG3.out.set 3 (.int .i64 q))
          replace HR := Lib.hid (HR3.out.other (a := ⟨g, 3, none⟩) hgw (.int .i64 q))
          replace HO := Lib.hid (Row.own_setb (g := g) (i := 3) (u := .int .i64 q) HO3.out HGB.out)
          clear hc3 hk3 HG3 HR3 HO3 HI
          go_upto_region 11 with fail
          generalize w3.setCell ⟨g, 3, none⟩ (.int .i64 q) = W at *
          have p0 := HG.out.cell 0; have p1 := HG.out.cell 1; have p2 := HG.out.cell 2; have p3 := HG.out.cell 3
          have r0 := HR.out.cell 0; have r1 := HR.out.cell 1; have r2 := HR.out.cell 2; have r3 := HR.out.cell 3
          have t0 := HR.out.frozen 0; have t1 := HR.out.frozen 1; have t2 := HR.out.frozen 2; have t3 := HR.out.frozen 3
          simp only [wc, List.getElem?_toArray, List.getElem?_cons_zero, List.getElem?_cons_succ] at p0 p1 p2 p3 r0 r1 r2 r3
          obtain ⟨z1, z2, z3, z4⟩ := endDW (s := (.slice x n c1)) (a := a) (b := b) (c := q) HC0.out hwp HO.out HC.out HK.out HR.out
          have Z1 := Lib.hid z1; have Z2 := Lib.hid z2; have Z3 := Lib.hid z3; have Z4 := Lib.hid z4
          clear z1 z2 z3 z4
          go_wp2_with fail
          refine bodyPost_ret (Ret.results_c rfl _ _ w.heap.size (wc (.slice x n c1) a b q).toList rfl aggW Z1.out.cells) rfl ?_
          exact ⟨_, rfl, ⟨_, m, a, b, q, rfl, Z2.out, HBM.out, by unfold smI at *; omega⟩, Z3.out, Z4.out⟩
        · have e3 : (r == 3) = false := by simpa using hk3
          go_upto_region 11 with fail
          have p0 := HG.out.cell 0; have p1 := HG.out.cell 1; have p2 := HG.out.cell 2; have p3 := HG.out.cell 3
          have r0 := HR.out.cell 0; have r1 := HR.out.cell 1; have r2 := HR.out.cell 2; have r3 := HR.out.cell 3
          have t0 := HR.out.frozen 0; have t1 := HR.out.frozen 1; have t2 := HR.out.frozen 2; have t3 := HR.out.frozen 3
          simp only [wc, List.getElem?_toArray, List.getElem?_cons_zero, List.getElem?_cons_succ] at p0 p1 p2 p3 r0 r1 r2 r3
          obtain ⟨z1, z2, z3, z4⟩ := endDW (s := (.slice x n c1)) (a := a) (b := b) (c := c) HC0.out hwp HO.out HC.out HK.out HR.out
          have Z1 := Lib.hid z1; have Z2 := Lib.hid z2; have Z3 := Lib.hid z3; have Z4 := Lib.hid z4
          clear z1 z2 z3 z4
          go_wp2_with fail
          refine bodyPost_ret (Ret.results_c rfl _ _ w.heap.size (wc (.slice x n c1) a b c).toList rfl aggW Z1.out.cells) rfl ?_
          exact ⟨_, rfl, ⟨_, m, a, b, c, rfl, Z2.out, HBM.out, by unfold smI at *; omega⟩, Z3.out, Z4.out⟩
end Go.Proofs.YtnnhgcfelkcpfaaDoor.Draw
/- Contracts of the reference model's draws of chapter 7: interests, bytes, names, in memory that was not there. What was in memory stays as it was. -/
namespace Go.Proofs.YtnnhgcfelkcpfaaDoor.Ret
theorem results_tcW {P : Program} {fn : Func} {p u : Tmp} {ty : TypeId} (h : fn.results = #[.tmp u, .cell p ty]) (tmps : Array Value) (w : World) (b : Nat) (cs : List Value) (hp : tmps.getD p undef = .pointer (some ⟨b, 0, none⟩))
    (ha : AggOf P ty cs.length) (hc : ∀ j v, cs[j]? = some v → w.cell? ⟨b, j, none⟩ = some v) : (results fn tmps).run P w = .ok (.tuple #[tmps.getD u undef, .agg cs.toArray]) w := by
  have hp' : tmps[p]?.getD undef = .pointer (some ⟨b, 0, none⟩) := by simpa using hp
  have hl := run_loadVar_cells (P := P) w b ty cs hc ha
  simp [results, h, hp', asAddr, hl, Result.andThen]
end Go.Proofs.YtnnhgcfelkcpfaaDoor.Ret
namespace Go.Proofs.YtnnhgcfelkcpfaaDoor.Draw
open Go.ChangeShapes Go.WideShapes Go.ChangeAt Go.RowKit Go.Instr
open Go.Proofs.YtnnhgcfelkcpfaaDoor.Row (bulk bulk_append bulk_one bulk_nil bulk_cons wc Wt aggW kW kB kN kW_of kB_of kN_of WfW)
open Go.Proofs.YtnnhgcfelkcpfaaDoor.Ret (NC Blk)
set_option linter.unusedVariables false
set_option maxRecDepth 100000

theorem wbyt_var (n : Int) : Sl.Byt (Var.var n) := by
  unfold Var.var
  split
  · exact Var.enc_byte _
  · exact byt_nil
theorem wbyt_encs (l : List Int) : Sl.Byt (Sl.encs l) := fun x hx => by
  unfold Sl.encs at hx
  obtain ⟨y, _, hx⟩ := List.mem_flatMap.1 hx
  exact wbyt_var y x hx
theorem wbyt_ps (l : List ByteArray) : Sl.Byt (Row.encPs l) := fun x hx => by
  unfold Row.encPs at hx
  obtain ⟨y, _, hx⟩ := List.mem_flatMap.1 hx
  exact byt_app (wbyt_var _) (Sl.bytesOf_byt y) x hx
theorem wbyt_app {b : List Int} (l : List ByteArray) (h : Sl.Byt b) : Sl.Byt (Row.appName b l) := by
  unfold Row.appName Row.encN
  split
  · exact byt_app h (byt_app (wbyt_var _) (wbyt_ps l))
  · exact h
theorem wbyt_W (x : Wt) : Sl.Byt (Row.encW x) := by
  unfold Row.encW
  split
  · exact byt_app (wbyt_app _ byt_nil) (wbyt_encs _)
  · exact byt_nil
theorem smI.wf {a b c : Int} {m : List ByteArray} (h : smI a b c) (hm : bulk m ≤ 1000) : WfW (m, a, b, c) := by
  unfold smI at h
  refine ⟨fun y hy => ?_, wf_of (by show _ ≤ a; omega) (by show a ≤ _; omega), wf_of (by show _ ≤ b; omega) (by show b ≤ _; omega), wf_of (by show _ ≤ c; omega) (by show c ≤ _; omega)⟩
  obtain ⟨k, hk, rfl⟩ := List.getElem_of_mem hy
  have hk' : k < m.length := hk
  have h1 := Row.size_bulk (l := m) hk'
  rw [Row.nth_eq hk'] at h1
  have h2 : maxLen = 9223372036854775807 := rfl
  show (m[k]).size ≤ maxLen
  omega
theorem slh_keep {p b off n c : Nat} {w w' : World} {k : IntKind} {l : List Int} (h : Sl.Holds k w (.slice (some ⟨b, off, none⟩) n c) l) (hk : Keep p w w') (hb : b ≠ p) : Sl.Holds k w' (.slice (some ⟨b, off, none⟩) n c) l := by
  obtain ⟨x, cap, hv, hc, hh⟩ := h
  cases hv
  refine ⟨_, c, rfl, hc, ?_⟩
  rcases hh with h1 | ⟨b', off', hx, h2⟩
  · exact Or.inl h1
  · cases hx
    exact Or.inr ⟨b, off, rfl, fun j hj => hk.cell (h2 j hj) hb⟩
def QW (w : World) (e : Ending) (w' : World) : Prop := ∃ U y, e = .returned U ∧ kW.At w' U y ∧ bulk y.1 ≤ 1000 ∧ WfW y ∧ Below w.heap.size w w'
def QWW (w : World) (e : Ending) (w' : World) : Prop := ∃ U y U2 y2, e = .returned (.tuple #[U, U2]) ∧ kW.At w' U y ∧ bulk y.1 ≤ 1000 ∧ kW.At w' U2 y2 ∧ bulk y2.1 ≤ 1000 ∧ Below w.heap.size w w'
def QB (w : World) (e : Ending) (w' : World) : Prop := ∃ U m, e = .returned U ∧ kB.At w' U m ∧ Sl.Byt m ∧ m.length ≤ 100000 ∧ Below w.heap.size w w'
def QBN (w : World) (e : Ending) (w' : World) : Prop := ∃ U m U2 n, e = .returned (.tuple #[U, U2]) ∧ kB.At w' U m ∧ m.length ≤ 100000 ∧ kN.At w' U2 n ∧ bulk n ≤ 1000 ∧ Below w.heap.size w w'
def QBi (w : World) (e : Ending) (w' : World) : Prop := ∃ U m, ∃ i : Int, e = .returned (.tuple #[U, .int .i64 i]) ∧ kB.At w' U m ∧ Sl.Byt m ∧ m.length ≤ 100000 ∧ Below w.heap.size w w'
theorem keepB4 {W : World} {g : Nat} {v : Value} {a b c : Int} {t : TypeId} (h : Blk W g (wc v a b c) t) : W.cell? ⟨g, 0, none⟩ = some v ∧ W.cell? ⟨g, 1, none⟩ = some (.int .i64 a) ∧ W.cell? ⟨g, 2, none⟩ = some (.int .i64 b) ∧ W.cell? ⟨g, 3, none⟩ = some (.int .i64 c) := ⟨h.cell 0, h.cell 1, h.cell 2, h.cell 3⟩
section
variable {W : World} {g q : Nat} {s : Value} {a b c : Int} {t : TypeId}
theorem blk4 {cs : Array Value} (h : Blk W g cs t) (hne : g ≠ q) : Blk ((((W.setCell ⟨q, 0, none⟩ s).setCell ⟨q, 1, none⟩ (.int .i64 a)).setCell ⟨q, 2, none⟩ (.int .i64 b)).setCell ⟨q, 3, none⟩ (.int .i64 c)) g cs t :=
  (((h.other (a := ⟨q, 0, none⟩) (fun e => hne e.symm) s).other (a := ⟨q, 1, none⟩) (fun e => hne e.symm) (.int .i64 a)).other (a := ⟨q, 2, none⟩) (fun e => hne e.symm) (.int .i64 b)).other (a := ⟨q, 3, none⟩) (fun e => hne e.symm) (.int .i64 c)
theorem own4 {B : Nat} {v : Value} {l : List ByteArray} (h : Row.Own 9 Value.string B W v l) (hq : q < B) : Row.Own 9 Value.string B ((((W.setCell ⟨q, 0, none⟩ s).setCell ⟨q, 1, none⟩ (.int .i64 a)).setCell ⟨q, 2, none⟩ (.int .i64 b)).setCell ⟨q, 3, none⟩ (.int .i64 c)) v l := Row.own_set (Row.own_set (Row.own_set (Row.own_set h hq) hq) hq) hq
theorem set4 {s1 : Value} {a1 b1 c1 : Int} (h : Blk W q (wc s1 a1 b1 c1) t) : Blk ((((W.setCell ⟨q, 0, none⟩ s).setCell ⟨q, 1, none⟩ (.int .i64 a)).setCell ⟨q, 2, none⟩ (.int .i64 b)).setCell ⟨q, 3, none⟩ (.int .i64 c)) q (wc s a b c) t := (((h.set 0 s).set 1 (.int .i64 a)).set 2 (.int .i64 b)).set 3 (.int .i64 c)
theorem below4 {B : Nat} {w0 : World} (h : Below B w0 W) (hq : B ≤ q) : Below B w0 ((((W.setCell ⟨q, 0, none⟩ s).setCell ⟨q, 1, none⟩ (.int .i64 a)).setCell ⟨q, 2, none⟩ (.int .i64 b)).setCell ⟨q, 3, none⟩ (.int .i64 c)) := (((h.setCell (p := ⟨q, 0, none⟩) hq s).setCell (p := ⟨q, 1, none⟩) hq (.int .i64 a)).setCell (p := ⟨q, 2, none⟩) hq (.int .i64 b)).setCell (p := ⟨q, 3, none⟩) hq (.int .i64 c)
end

set_option maxHeartbeats 8000000 in
theorem drawEncodeInterest (w : World) (v : Value) (l : List UInt8) (hb : Frame.Bytes w v l) :
    Calls Tryd.prog 6 #[v] w (QW w) := by
  have hal : Below w.heap.size w (w.alloc (.cells (wc (.slice none 0 0) 0 0 0) 28)) := (Below.refl _ _).alloc (Nat.le_refl _) _
  have HAL := Lib.hid hal
  have HR0 := Lib.hid (Blk.new w (wc (.slice none 0 0) 0 0 0) 28)
  have HN := Lib.hid (new (w.alloc (.cells (wc (.slice none 0 0) 0 0 0) 28)) v l (hb.on hal)); clear hb hal
  go_enter Tryd.func6, Tryd.ntmps6
  go_wp2_with fail
  refine HN.out.mono ?_
  rintro e w1 ⟨rfl, hc⟩
  have HR1 := Lib.hid (HR0.out.on hc.below)
  have hpz := hc.lt
  simp only [World.size_alloc] at hc hpz
  have HD := Lib.hid (l7Any _ _ v l w1 hc); clear hc
  go_wp2_with fail
  refine HD.out.mono ?_
  rintro e w2 ⟨y, rfl, ⟨u, m, a, b, c, rfl, ho, hm, hsm⟩, hc, hk⟩
  obtain ⟨x, n, c1, rfl, -, -, ho⟩ := ho.shapeN
  have HB2 := Lib.hid (HAL.out.trans (hc.below.mono HAL.out.size))
  have HR2 := Lib.hid (blk_keep HR1.out hk (by omega))
  obtain ⟨z1, z2, z3⟩ := Row.endW (a := a) (b := b) (c := c) HR2.out ho (Or.inl (by omega)) HB2.out
  have Z1 := Lib.hid z1; have Z2 := Lib.hid z2; have Z3 := Lib.hid z3
  have HSM := Lib.hid (hsm.wf hm); have HM := Lib.hid hm
  clear z1 z2 z3 ho hc hk HD hsm hm
  have r0 := HR2.out.cell 0; have r1 := HR2.out.cell 1; have r2 := HR2.out.cell 2; have r3 := HR2.out.cell 3
  have t0 := HR2.out.frozen 0; have t1 := HR2.out.frozen 1; have t2 := HR2.out.frozen 2; have t3 := HR2.out.frozen 3
  simp only [wc, List.getElem?_toArray, List.getElem?_cons_zero, List.getElem?_cons_succ] at r0 r1 r2 r3
  go_wp2_with fail
  refine bodyPost_ret (Ret.results_c rfl _ _ w.heap.size (wc (.slice x n c1) a b c).toList rfl aggW Z1.out.cells) rfl ?_
  exact ⟨_, (m, a, b, c), rfl, kW_of (x := (m, a, b, c)) Z2.out.holds, HM.out, HSM.out, Z3.out⟩

set_option maxHeartbeats 8000000 in
theorem drawDecrementHops (w : World) (v : Value) (l : List UInt8) (hb : Frame.Bytes w v l) :
    Calls Tryd.prog 16 #[v] w (QW w) := by
  have hal : Below w.heap.size w (w.alloc (.cells (wc (.slice none 0 0) 0 0 0) 28)) := (Below.refl _ _).alloc (Nat.le_refl _) _
  have HAL := Lib.hid hal
  have HR0 := Lib.hid (Blk.new w (wc (.slice none 0 0) 0 0 0) 28)
  have HN := Lib.hid (new (w.alloc (.cells (wc (.slice none 0 0) 0 0 0) 28)) v l (hb.on hal)); clear hb hal
  go_enter Tryd.func16, Tryd.ntmps16
  go_wp2_with fail
  refine HN.out.mono ?_
  rintro e w1 ⟨rfl, hc⟩
  have HR1 := Lib.hid (HR0.out.on hc.below)
  have hpz := hc.lt
  simp only [World.size_alloc] at hc hpz
  have HD := Lib.hid (l7Any _ _ v l w1 hc); clear hc
  go_wp2_with fail
  refine HD.out.mono ?_
  rintro e w2 ⟨y, rfl, ⟨u, m, a, b, c, rfl, ho, hm, hsm⟩, hc, hk⟩
  obtain ⟨x, n, c1, rfl, -, -, ho⟩ := ho.shapeN
  have HB2 := Lib.hid (HAL.out.trans (hc.below.mono HAL.out.size))
  have HR2 := Lib.hid (blk_keep HR1.out hk (by omega))
  obtain ⟨z1, z2, z3⟩ := Row.endW (a := a) (b := b) (c := c) HR2.out ho (Or.inl (by omega)) HB2.out
  have Z1 := Lib.hid z1; have Z2 := Lib.hid z2; have Z3 := Lib.hid z3
  have HSM := Lib.hid (hsm.wf hm); have HM := Lib.hid hm
  clear z1 z2 z3 ho hc hk HD hsm hm
  have r0 := HR2.out.cell 0; have r1 := HR2.out.cell 1; have r2 := HR2.out.cell 2; have r3 := HR2.out.cell 3
  have t0 := HR2.out.frozen 0; have t1 := HR2.out.frozen 1; have t2 := HR2.out.frozen 2; have t3 := HR2.out.frozen 3
  simp only [wc, List.getElem?_toArray, List.getElem?_cons_zero, List.getElem?_cons_succ] at r0 r1 r2 r3
  go_wp2_with fail
  refine bodyPost_ret (Ret.results_c rfl _ _ w.heap.size (wc (.slice x n c1) a b c).toList rfl aggW Z1.out.cells) rfl ?_
  exact ⟨_, (m, a, b, c), rfl, kW_of (x := (m, a, b, c)) Z2.out.holds, HM.out, HSM.out, Z3.out⟩

set_option maxHeartbeats 8000000 in
theorem drawDecodeInterest (w : World) (v : Value) (l : List UInt8) (hb : Frame.Bytes w v l) :
    Calls Tryd.prog 8 #[v] w (QB w) := by
  have HN := Lib.hid (new w v l hb); clear hb
  go_enter Tryd.func8, Tryd.ntmps8
  go_wp2_with fail
  refine HN.out.mono ?_
  rintro e w1 ⟨rfl, hc⟩
  have HD := Lib.hid (l7Draw _ _ v l w1 hc); clear hc
  go_wp2_with fail
  refine HD.out.mono ?_
  rintro e w2 ⟨y, rfl, ⟨u, m, a, b, c, rfl, ho, hm, hsm⟩, hc, hk⟩
  obtain ⟨x, n, c1, rfl, -, -, ho⟩ := ho.shapeN
  have HO := Lib.hid ho; have HC := Lib.hid hc; have HM := Lib.hid hm
  clear ho hc hk HD hsm hm
  go_wp2_with fail
  refine (Row.specEncodeInterest _ (m, a, b, c) _ HO.out.holds (show bulk m ≤ 1200000 by have := HM.out; omega)).mono ?_
  rintro e w3 ⟨v3, rfl, ho3, hb3⟩
  obtain ⟨x3, c3, rfl, -, ho3⟩ := ho3.holds.shape
  have hl3 := Row.encW_le (m, a, b, c)
  have hl4 : (Row.encW (m, a, b, c)).length ≤ 7000 := by have := HM.out; simp only at hl3; omega
  have HT := Lib.hid (bent _ _ v l w3 _ _ ho3 (wbyt_W _) (by omega) (HC.out.on hb3))
  obtain ⟨n3, hn3⟩ : ∃ n, n = (Row.encW (m, a, b, c)).length := ⟨_, rfl⟩
  rw [← hn3] at HT hl4 ⊢
  clear ho3 hb3 hl3 hn3
  go_wp2_with fail
  refine HT.out.mono ?_
  rintro e w4 ⟨y, rfl, ⟨mm, ho4, hy4, -, hz4⟩, hc4, hk4⟩
  have HO4 := Lib.hid ho4; have HC4 := Lib.hid hc4; have HY4 := Lib.hid hy4
  obtain ⟨x4, c4, rfl, -, -⟩ := ho4.holds.shape
  clear ho4 hc4 hk4 hy4 HT
  go_wp2_with fail
  go_ret
  exact ⟨_, mm, rfl, kB_of HO4.out.holds, HY4.out, by omega, HC4.out.below⟩

set_option maxHeartbeats 8000000 in
theorem drawAppendName (w : World) (v : Value) (l : List UInt8) (hb : Frame.Bytes w v l) :
    Calls Tryd.prog 11 #[v] w (QBN w) := by
  have hal : Below w.heap.size w (w.alloc (.cells #[.slice none 0 0] 26)) := (Below.refl _ _).alloc (Nat.le_refl _) _
  have HAL := Lib.hid hal
  have HR0 := Lib.hid (NC.new' (w := w) (.slice none 0 0) 26 rfl)
  have HN := Lib.hid (new (w.alloc (.cells #[.slice none 0 0] 26)) v l (hb.on hal)); clear hb hal
  go_enter Tryd.func11, Tryd.ntmps11
  go_wp2_with fail
  refine HN.out.mono ?_
  rintro e w1 ⟨rfl, hc⟩
  have HR1 := Lib.hid (HR0.out.on hc.below)
  have hpz := hc.lt
  simp only [World.size_alloc] at hc hpz
  have HD := Lib.hid (below _ _ v l w1 3 hc); clear hc
  go_wp2_with fail
  refine HD.out.mono ?_
  rintro e w2 ⟨y, rfl, ⟨r, rfl, hr, -⟩, hc2, hk2⟩
  have hr := hr (by omega)
  obtain ⟨r, rfl⟩ := Int.eq_ofNat_of_zero_le hr.1
  have HR2 := Lib.hid (NC.keep HR1.out hk2 (by omega))
  have hpz2 := hc2.lt
  have HT := Lib.hid (bytes _ _ v l w2 r (by omega) hc2)
  clear hc2 hk2 HD
  go_wp2_with fail
  refine HT.out.mono ?_
  rintro e w3 ⟨y, rfl, ⟨mm, ho3, hy3, -, hz3⟩, hc3, hk3⟩
  obtain ⟨x3, c3, rfl, -, ho3s⟩ := ho3.holds.shape
  obtain ⟨n3, hn3⟩ : ∃ n, n = mm.length := ⟨_, rfl⟩
  rw [← hn3] at ho3 hz3 ⊢
  have HR3 := Lib.hid (NC.keep HR2.out hk3 (by omega))
  have HO3 := Lib.hid (ho3.mono (show w.heap.size + 2 ≤ w2.heap.size by omega)); have HN3 := Lib.hid hn3
  have hpz3 := hc3.lt
  have HA := Lib.hid (l4Any _ _ v l w3 hc3)
  clear hc3 hk3 ho3 ho3s hn3 HT hy3
  go_wp2_with fail
  refine HA.out.mono ?_
  rintro e w4 ⟨y, rfl, ⟨u, n, rfl, ho4, hm4⟩, hc4, hk4⟩
  obtain ⟨x4, n4, c4, rfl, -, -, ho4⟩ := ho4.shapeN
  have HR4 := Lib.hid (NC.keep HR3.out hk4 (by omega))
  have HB4 := Lib.hid (HAL.out.trans (hc4.below.mono HAL.out.size))
  have HO4 := Lib.hid (own_keep HO3.out hk4 (by omega))
  obtain ⟨hq0, hf0⟩ := HR4.out
  obtain ⟨q1, q2, q3⟩ := Row.endN (w := w) (g := w.heap.size) (Nat.le_refl _) (by omega) ho4 hq0 HB4.out
  have HQ1 := Lib.hid q1; have HQ2 := Lib.hid q2; have HQ3 := Lib.hid q3
  have HO5 := Lib.hid (HO4.out.grown (Ret.grownBy_set w4 ⟨w.heap.size, 0, none⟩ (.slice x4 n4 c4)) (by
    cases hv : (Value.slice x3 n3 c3).ownBlock with
    | none => exact Or.inl rfl
    | some q => exact Or.inr fun e => by have h1 := (HO4.out.lt q hv).1; have h2 : q = w.heap.size := Option.some.inj e; omega))
  have HM4 := Lib.hid hm4
  clear q1 q2 q3 ho4 hc4 hk4 HA hm4 HO3 HO4
  go_wp2_with fail
  refine bodyPost_ret (Ret.results_tcW rfl _ _ w.heap.size [_] rfl Row.aggN (Ret.one HQ1.out)) rfl ?_
  exact ⟨_, mm, _, n, rfl, kB_of HO5.out.holds, by have := HN3.out; omega, kN_of HQ2.out.holds, HM4.out, HQ3.out⟩

set_option maxHeartbeats 8000000 in
theorem drawReadName (w : World) (v : Value) (l : List UInt8) (hb : Frame.Bytes w v l) :
    Calls Tryd.prog 12 #[v] w (QBi w) := by
  have HN := Lib.hid (new w v l hb); clear hb
  go_enter Tryd.func12, Tryd.ntmps12
  go_wp2_with fail
  refine HN.out.mono ?_
  rintro e w1 ⟨rfl, hc⟩
  have hpz := hc.lt
  have h9 := Sl.holds_one .u8 5 w1 9
  have hal : Below w1.heap.size w1 (w1.alloc (.cells #[.int .u8 9] 5)) := (Below.refl _ _).alloc (Nat.le_refl _) _
  have HA := Lib.hid (l4Any _ _ v l _ (hc.on hal))
  have H9 := Lib.hid h9
  clear hc hal h9
  go_wp2_with fail
  refine HA.out.mono ?_
  rintro e w2 ⟨y, rfl, ⟨u, m, rfl, ho, hm⟩, hc2, hk2⟩
  obtain ⟨x2, n2, c2, rfl, -, -, ho⟩ := ho.shapeN
  have HZ2 := Lib.hid (slh_keep H9.out hk2 (by omega))
  have HC2 := Lib.hid hc2; have HO2 := Lib.hid ho; have HM := Lib.hid hm
  clear hc2 hk2 ho hm HA
  go_wp2_with fail
  refine (Row.specAppendName _ _ [9] m _ HZ2.out HO2.out.holds (by simp) (by have := HM.out; omega)).mono ?_
  rintro e w3 ⟨v3, rfl, ho3, hb3⟩
  obtain ⟨x3, c3, rfl, -, ho3⟩ := ho3.holds.shape
  have hl3 := Row.appName_le [9] m
  have hl4 : (Row.appName [9] m).length ≤ 7000 := by have := HM.out; simp at hl3; omega
  have HT := Lib.hid (bent _ _ v l w3 _ _ ho3 (wbyt_app m (byt_one (by decide) (by decide))) (by omega) (HC2.out.on hb3))
  obtain ⟨n3, hn3⟩ : ∃ n, n = (Row.appName [9] m).length := ⟨_, rfl⟩
  rw [← hn3] at HT hl4 ⊢
  have hb3s := Lib.hid hb3.size
  clear ho3 hb3 hl3 hn3
  go_wp2_with fail
  refine HT.out.mono ?_
  rintro e w4 ⟨y, rfl, ⟨mm, ho4, hy4, -, hz4⟩, hc4, hk4⟩
  obtain ⟨x4, c4, rfl, -, -⟩ := ho4.holds.shape
  obtain ⟨n4, hn4⟩ : ∃ n, n = mm.length := ⟨_, rfl⟩
  rw [← hn4] at ho4 hz4 ⊢
  have hpz4 := hc4.lt
  have HO4 := Lib.hid ho4; have HY4 := Lib.hid hy4; have HN4 := Lib.hid hn4
  have hz3 : w.heap.size < w3.heap.size := by have h1 := HC2.out.lt; have h2 := HO2.out.holds; have h5 := hb3s.out; omega
  have HI := Lib.hid (intLit2 _ _ v l w4 hc4 [1, 1, 1, 0, -1, 99] _ rfl 6 rfl (by decide) (by decide) (-1) 99 (by decide))
  clear ho4 hc4 hk4 hy4 HT hn4
  go_wp2_with fail
  refine HI.out.mono ?_
  rintro e w5 ⟨y, rfl, ⟨i, rfl, hi1, hi2⟩, hc5, hk5⟩
  have HO5 := Lib.hid (own_keep HO4.out hk5 hz3)
  have HC5 := Lib.hid hc5
  clear hc5 hk5 HI
  go_wp2_with fail
  go_ret2
  exact ⟨_, mm, i, rfl, kB_of HO5.out.holds, HY4.out, by have := HN4.out; omega, HC5.out.below⟩

set_option maxHeartbeats 8000000 in
theorem drawEqualInterests (w : World) (v : Value) (l : List UInt8) (hb : Frame.Bytes w v l) :
    Calls Tryd.prog 15 #[v] w (QWW w) := by
  have HAL := Lib.hid (((Below.refl w.heap.size w).alloc (Nat.le_refl _) (.cells (wc (.slice none 0 0) 0 0 0) 28)).alloc (by simp) (.cells (wc (.slice none 0 0) 0 0 0) 28))
  have HR0 := Lib.hid ((Blk.new w (wc (.slice none 0 0) 0 0 0) 28).on ((Below.refl _ _).alloc (Nat.le_refl _) (.cells (wc (.slice none 0 0) 0 0 0) 28)))
  have HS0 := Lib.hid (Blk.new' (w := w.alloc (.cells (wc (.slice none 0 0) 0 0 0) 28)) (n := w.heap.size + 1) (wc (.slice none 0 0) 0 0 0) 28 (by simp))
  have HN := Lib.hid (new ((w.alloc (.cells (wc (.slice none 0 0) 0 0 0) 28)).alloc (.cells (wc (.slice none 0 0) 0 0 0) 28)) v l (hb.on HAL.out)); clear hb
  go_enter Tryd.func15, Tryd.ntmps15
  go_wp2_with fail
  refine HN.out.mono ?_
  rintro e w1 ⟨rfl, hc⟩
  have HR1 := Lib.hid (HR0.out.on hc.below); have HS1 := Lib.hid (HS0.out.on hc.below)
  have hpz := hc.lt
  simp only [World.size_alloc] at hc hpz
  have HD := Lib.hid (l7Any _ _ v l w1 hc); clear hc
  go_wp2_with fail
  refine HD.out.mono ?_
  rintro e w2 ⟨y, rfl, ⟨u, m, a, b, c, rfl, ho, hm, hsm⟩, hc, hk⟩
  obtain ⟨x2, n2, c2, rfl, -, -, ho⟩ := ho.shapeN
  have hkz := hk.size
  have hal : Below w2.heap.size w2 (w2.alloc (.cells (wc (.slice x2 n2 c2) a b c) 28)) := (Below.refl _ _).alloc (Nat.le_refl _) _
  have HO2 := Lib.hid ((ho.mono (show w.heap.size + 1 + 1 + 1 ≤ w1.heap.size by omega)).on hal)
  have HR2 := Lib.hid ((blk_keep HR1.out hk (by omega)).on hal); have HZ2 := Lib.hid ((blk_keep HS1.out hk (by omega)).on hal)
  have HG2 := Lib.hid (Blk.new w2 (wc (.slice x2 n2 c2) a b c) 28)
  have HL := Lib.hid (once _ _ v l _ 2 (hc.on hal))
  have HM := Lib.hid hm
  have hgp : w2.heap.size ≠ w.heap.size + 1 + 1 := by omega
  have hg0 : w2.heap.size ≠ w.heap.size := by omega
  have hg1 : w2.heap.size ≠ w.heap.size + 1 := by omega
  have hgg : w.heap.size + 1 + 1 + 1 ≤ w2.heap.size := by omega
  clear hal ho hc hk hm HD hkz HR1 HS1
  go_upto_region 3 with fail
  generalize w2.alloc (.cells (wc (.slice x2 n2 c2) a b c) 28) = V at *
  generalize w2.heap.size = g at *
  go_wp2_with fail
  refine HL.out.mono ?_
  rintro e w3 ⟨y, rfl, ⟨bb, rfl⟩, hc3, hk3⟩
  have hdr : Below w3.heap.size w3 w3.drew := (Below.refl _ _).drew
  have HCD := Lib.hid (hc3.on hdr)
  have HOD := Lib.hid ((rown_keep HO2.out hk3 (by omega)).on hdr)
  have HRD := Lib.hid ((blk_keep HR2.out hk3 (by omega)).on hdr); have HSD := Lib.hid ((blk_keep HZ2.out hk3 (by omega)).on hdr)
  have HGD := Lib.hid ((blk_keep HG2.out hk3 hgp).on hdr)
  have HBD := Lib.hid (HAL.out.trans (HCD.out.below.mono HAL.out.size))
  have hw3 : w.heap.size + 1 + 1 + 1 ≤ w3.drew.heap.size := by have h1 := HCD.out.lt; omega
  clear hc3 hk3 hdr HL HO2 HR2 HZ2 HG2
  cases bb with
  | true =>
    go_wp2_with fail
    go_region_held3 (fun w' => w'.cell? ⟨g, 0, none⟩ = some (.slice x2 n2 c2) ∧ w'.cell? ⟨g, 1, none⟩ = some (.int .i64 a) ∧ w'.cell? ⟨g, 2, none⟩ = some (.int .i64 b) ∧ w'.cell? ⟨g, 3, none⟩ = some (.int .i64 c)) (first | with_reducible exact keepB4 HGD.out | with_reducible exact keepB4 HG4.out | with_reducible exact keepB4 HG5.out | with_reducible exact keepB4 HG6.out) (first | (go_at_call 52; refine (Row.l7Copy (.slice x2 n2 c2) (m, a, b, c) _ HOD.out.holds (show m.length ≤ 9000000 by have h1 := Row.bulk_len m; have h2 := HM.out; omega)).mono ?_; rintro e w4 ⟨v4, rfl, ho4, hb4⟩; simp only at ho4; obtain ⟨x4, n4, c4, rfl, -, -, ho4⟩ := ho4.shapeN; have HO4 := Lib.hid (ho4.mono hw3); have HP4 := Lib.hid (HOD.out.on hb4); have HR4 := Lib.hid (HRD.out.on hb4); have HS4 := Lib.hid (HSD.out.on hb4); have HG4 := Lib.hid (HGD.out.on hb4); have HB4 := Lib.hid (HBD.out.trans (hb4.mono HBD.out.size)); obtain ⟨r0, r1, r2, r3⟩ := keepB4 HR4.out; have t0 := HR4.out.frozen 0; have t1 := HR4.out.frozen 1; have t2 := HR4.out.frozen 2; have t3 := HR4.out.frozen 3; have HG5 := Lib.hid (blk4 (s := (.slice x2 n2 c2)) (a := a) (b := b) (c := c) HG4.out hg0); have HS5 := Lib.hid (blk4 (s := (.slice x2 n2 c2)) (a := a) (b := b) (c := c) HS4.out (show w.heap.size + 1 ≠ w.heap.size by omega)); obtain ⟨y0, y1, y2, y3⟩ := keepB4 HS5.out; have j0 := HS5.out.frozen 0; have j1 := HS5.out.frozen 1; have j2 := HS5.out.frozen 2; have j3 := HS5.out.frozen 3; have HG6 := Lib.hid (blk4 (s := .slice x4 n4 c4) (a := a) (b := b) (c := c) HG5.out hg1); clear ho4 hb4))
    all_goals
      have HR6 := Lib.hid (blk4 (s := .slice x4 n4 c4) (a := a) (b := b) (c := c) (set4 (s := (.slice x2 n2 c2)) (a := a) (b := b) (c := c) HR4.out) (show w.heap.size ≠ w.heap.size + 1 by omega))
      have HS6 := Lib.hid (set4 (s := .slice x4 n4 c4) (a := a) (b := b) (c := c) HS5.out)
      have HP6 := Lib.hid (own4 (q := w.heap.size + 1) (s := .slice x4 n4 c4) (a := a) (b := b) (c := c) (own4 (q := w.heap.size) (s := (.slice x2 n2 c2)) (a := a) (b := b) (c := c) HP4.out (by omega)) (by omega))
      have HO6 := Lib.hid (own4 (q := w.heap.size + 1) (s := .slice x4 n4 c4) (a := a) (b := b) (c := c) (own4 (q := w.heap.size) (s := (.slice x2 n2 c2)) (a := a) (b := b) (c := c) HO4.out (by omega)) (by omega))
      have HB6 := Lib.hid (below4 (q := w.heap.size + 1) (s := .slice x4 n4 c4) (a := a) (b := b) (c := c) (below4 (q := w.heap.size) (s := (.slice x2 n2 c2)) (a := a) (b := b) (c := c) HB4.out (Nat.le_refl _)) (by omega))
      go_wp2_with fail
      refine bodyPost_ret (Ret.results_cc rfl _ _ w.heap.size (w.heap.size + 1) (wc (.slice x2 n2 c2) a b c).toList (wc (.slice x4 n4 c4) a b c).toList rfl rfl aggW aggW HR6.out.cells HS6.out.cells) rfl ?_
      exact ⟨_, (m, a, b, c), _, (m, a, b, c), rfl, kW_of (x := (m, a, b, c)) HP6.out.holds, HM.out, kW_of (x := (m, a, b, c)) HO6.out.holds, HM.out, HB6.out⟩
  | false =>
    go_wp2_with fail
    go_region_held3 (fun w' => w'.cell? ⟨g, 0, none⟩ = some (.slice x2 n2 c2) ∧ w'.cell? ⟨g, 1, none⟩ = some (.int .i64 a) ∧ w'.cell? ⟨g, 2, none⟩ = some (.int .i64 b) ∧ w'.cell? ⟨g, 3, none⟩ = some (.int .i64 c)) (first | with_reducible exact keepB4 HGD.out | with_reducible exact keepB4 HG4.out | with_reducible exact keepB4 HG5.out | with_reducible exact keepB4 HG6.out) (first | (go_at_call 34; refine (l7Any _ _ v l _ HCD.out).mono ?_; rintro e w4 ⟨y, rfl, ⟨v4, m4, a4, b4, d4, rfl, ho4, hm4, hsm4⟩, hc4, hk4⟩; obtain ⟨x4, n4, c4, rfl, -, -, ho4⟩ := ho4.shapeN; have HO4 := Lib.hid (ho4.mono hw3); have HP4 := Lib.hid (rown_keep HOD.out hk4 (show w.heap.size + 1 + 1 < w.heap.size + 1 + 1 + 1 by omega)); have HR4 := Lib.hid (blk_keep HRD.out hk4 (show w.heap.size ≠ w.heap.size + 1 + 1 by omega)); have HS4 := Lib.hid (blk_keep HSD.out hk4 (show w.heap.size + 1 ≠ w.heap.size + 1 + 1 by omega)); have HG4 := Lib.hid (blk_keep HGD.out hk4 hgp); have HB4 := Lib.hid (HAL.out.trans (hc4.below.mono HAL.out.size)); obtain ⟨r0, r1, r2, r3⟩ := keepB4 HR4.out; have t0 := HR4.out.frozen 0; have t1 := HR4.out.frozen 1; have t2 := HR4.out.frozen 2; have t3 := HR4.out.frozen 3; have HG5 := Lib.hid (blk4 (s := (.slice x2 n2 c2)) (a := a) (b := b) (c := c) HG4.out hg0); have HS5 := Lib.hid (blk4 (s := (.slice x2 n2 c2)) (a := a) (b := b) (c := c) HS4.out (show w.heap.size + 1 ≠ w.heap.size by omega)); obtain ⟨y0, y1, y2, y3⟩ := keepB4 HS5.out; have j0 := HS5.out.frozen 0; have j1 := HS5.out.frozen 1; have j2 := HS5.out.frozen 2; have j3 := HS5.out.frozen 3; have HG6 := Lib.hid (blk4 (s := .slice x4 n4 c4) (a := a4) (b := b4) (c := d4) HG5.out hg1); have HM4 := Lib.hid hm4; clear ho4 hc4 hk4 hm4))
    all_goals
      have HR6 := Lib.hid (blk4 (s := .slice x4 n4 c4) (a := a4) (b := b4) (c := d4) (set4 (s := (.slice x2 n2 c2)) (a := a) (b := b) (c := c) HR4.out) (show w.heap.size ≠ w.heap.size + 1 by omega))
      have HS6 := Lib.hid (set4 (s := .slice x4 n4 c4) (a := a4) (b := b4) (c := d4) HS5.out)
      have HP6 := Lib.hid (own4 (q := w.heap.size + 1) (s := .slice x4 n4 c4) (a := a4) (b := b4) (c := d4) (own4 (q := w.heap.size) (s := (.slice x2 n2 c2)) (a := a) (b := b) (c := c) HP4.out (by omega)) (by omega))
      have HO6 := Lib.hid (own4 (q := w.heap.size + 1) (s := .slice x4 n4 c4) (a := a4) (b := b4) (c := d4) (own4 (q := w.heap.size) (s := (.slice x2 n2 c2)) (a := a) (b := b) (c := c) HO4.out (by omega)) (by omega))
      have HB6 := Lib.hid (below4 (q := w.heap.size + 1) (s := .slice x4 n4 c4) (a := a4) (b := b4) (c := d4) (below4 (q := w.heap.size) (s := (.slice x2 n2 c2)) (a := a) (b := b) (c := c) HB4.out (Nat.le_refl _)) (by omega))
      go_wp2_with fail
      refine bodyPost_ret (Ret.results_cc rfl _ _ w.heap.size (w.heap.size + 1) (wc (.slice x2 n2 c2) a b c).toList (wc (.slice x4 n4 c4) a4 b4 d4).toList rfl rfl aggW aggW HR6.out.cells HS6.out.cells) rfl ?_
      exact ⟨_, (m, a, b, c), _, (m4, a4, b4, d4), rfl, kW_of (x := (m, a, b, c)) HP6.out.holds, HM.out, kW_of (x := (m4, a4, b4, d4)) HO6.out.holds, HM4.out, HB6.out⟩
end Go.Proofs.YtnnhgcfelkcpfaaDoor.Draw
