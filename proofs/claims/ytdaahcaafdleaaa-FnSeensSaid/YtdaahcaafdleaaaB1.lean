/- Contracts and mathematics, joined: Frame, Num, Draw, DrawOne, DrawW, Row, Str, Ret, Name. No conditions but those that each states. -/
import Derived.ProofKit
import Derived.Carry
import Derived.SizedLaws
import Derived.ChangeSlices
import Derived.Lib.SmallJoins
import Derived.RowKit
import Derived.Test.YtdaahcaafdleaaaRows
import Derived.WalkKit
import Derived.WalkLawsBesides
import Derived.Lib.Hide
import Derived.LoopTactic
import Derived.Below
import Derived.WalkSmall
import Derived.Deep.QuietTactic
import Derived.BigQuiet
import Derived.OwnWalk
import Derived.Laws.OwnMore
import Derived.Laws.AppendOwnNone
import Derived.ArgAppend
import Derived.Maps.AppendAt
import Derived.Deep.RegionHeld3
import Derived.Laws.Rows
import Derived.Laws.ResultCell
/- The frame of a law, once for every law: a call that returns true and leaves all that was in memory as it was meets the law's statement, whatever the types of its arguments. -/
namespace Go.Proofs.Ytdaahcaafdleaaa.Frame
open Go.ChangeShapes Go.WideShapes Go.ChangeAt Go.RowKit
theorem stays {H : Type} {enc : TypeId × Value → H} {P : Program} (hl : laidOutB P = true) {W W' : World} (hb : Below W.heap.size W W') :
    ∀ {ts : List TypeId} {vs : List Value} {ds : List (DataW H)} {ps : List MemPlace}, (∀ t ∈ ts, P.readableRec t = true ∧ t < P.types.size) → DataW.TrodAll enc P W 0 (fun _ => true) true ts vs ds ps → (∀ x ∈ ps, x.block < W.heap.size) →
      DataW.TrodAll enc P W' 0 (fun b => decide (b < W.heap.size)) true ts vs ds ps
  | [], [], [], _, _, h, _ => h
  | [], [], _ :: _, _, _, h, _ => h.elim
  | [], _ :: _, [], _, _, h, _ => h.elim
  | [], _ :: _, _ :: _, _, _, h, _ => h.elim
  | _ :: _, [], [], _, _, h, _ => h.elim
  | _ :: _, [], _ :: _, _, _, h, _ => h.elim
  | _ :: _, _ :: _, [], _, _, h, _ => h.elim
  | t :: ts, v :: vs, d :: ds, ps, ht, h, hlt => by
    obtain ⟨p, q, h1, h2, e⟩ := h
    have h3 := ht t (by simp)
    exact ⟨p, q, Below.trod hl h3.1 h3.2 h1 hb (fun x hx => hlt x (by rw [e]; simp [hx])), stays hl hb (fun t' ht' => ht t' (by simp [ht'])) h2 (fun x hx => hlt x (by rw [e]; simp [hx])), e⟩
def rowed (P : Program) (ts : List TypeId) : Bool := ts.all fun t => P.readableRec t && decide (t < P.types.size)
theorem law_post {H : Type} {enc : TypeId × Value → H} {P : Program} {f : Func} {s : ChangeSpec} {tb : TypeId} {W W' : World} {args : Array Value} {ds : List (DataW H)} {before : List MemPlace}
    (hl : laidOutB P = true) (hp : rowed P f.params.toList = true) (hres : f.resultTypes = #[tb]) (hub : P.underlying tb = some .bool) (hvars : s.vars = [])
    (hfn : s.fn H (ds ++ []) = { results := [.lit (.bool true)], args := ds }) (hW : DataW.Whole enc P f.params.toList s.vars false W args.toList ds [] before) (hb : Below W.heap.size W W') :
    s.post enc P f false true false false W args (.bool true) W' := by
  have hlt := hW.lt
  have hW' := hW
  obtain ⟨p, q, hA, hV, rfl, _, _⟩ := hW
  refine ⟨ds, [], p ++ q, [], p, [], hW', ?_, ?_, ?_, hb.frame _, fun h => by cases h⟩
  · rw [hfn, hres]
    exact trodAll_mk1 (shut_bool hub true)
  · rw [hfn]
    refine stays hl hb (fun t ht => ?_) hA (fun x hx => hlt x (by simp [hx]))
    have := List.all_eq_true.1 hp t ht
    simpa using this
  · rw [hfn, hvars]
    exact rfl
def Bytes (w : World) (v : Value) (l : List UInt8) : Prop :=
  (v = .slice none 0 0 ∧ l = []) ∨ ∃ a cap, v = .slice (some a) l.length cap ∧ l.length ≤ cap ∧ cap ≤ 140737488351232 ∧ ∀ i (h : i < l.length), w.cell? (a.add i) = some (.int .u8 l[i].toNat)
theorem cell_lt {w : World} {a : Addr} {v : Value} (h : w.cell? a = some v) : a.block < w.heap.size := by
  unfold World.cell? at h
  cases hh : w.heap[a.block]? with
  | none => simp [hh] at h
  | some o => exact (Array.getElem?_eq_some_iff.1 hh).1
theorem Bytes.on {w w' : World} {v : Value} {l : List UInt8} (h : Bytes w v l) (hb : Below w.heap.size w w') : Bytes w' v l := by
  rcases h with h | ⟨a, cap, h1, h2, h3, h4⟩
  · exact Or.inl h
  · exact Or.inr ⟨a, cap, h1, h2, h3, fun i hi => by rw [hb.cell (cell_lt (h4 i hi))]; exact h4 i hi⟩
theorem bytesOf_nums {zs : List Int} (h : ∀ n ∈ zs, (Lit.int .u8 n).wf = true) : ∃ l : List UInt8, zs = l.map fun c => (c.toNat : Int) := by
  induction zs with
  | nil => exact ⟨[], rfl⟩
  | cons z r ih =>
    obtain ⟨l, hl⟩ := ih (fun n hn => h n (by simp [hn]))
    have e1 : IntKind.u8.min = 0 := rfl
    have e2 : IntKind.u8.max = 255 := rfl
    have hz : 0 ≤ z ∧ z ≤ 255 := by simpa [Lit.wf, e1, e2] using h z (by simp)
    refine ⟨UInt8.ofNat z.toNat :: l, ?_⟩
    rw [hl]
    simp only [List.map_cons, List.cons.injEq, and_true]
    have : (UInt8.ofNat z.toNat).toNat = z.toNat := by simp; omega
    rw [this]; omega
theorem open_bytes {H : Type} {enc : TypeId × Value → H} {P : Program} {w : World} {base b2 : Nat} {held : Bool} {t e : TypeId} {v : Value} {d : DataW H} {p : List MemPlace} {ts : List TypeId} {ds : List (DataW H)} {j : Nat}
    (ht : P.underlying t = some (.slice e)) (he : P.underlying e = some (.int .u8)) (hc : P.cellsOf e = 1) (hz : P.bytesOf e = 1) (hv : Value.okWide P w .any base t v)
    (h : DataW.Trod enc P w b2 (fun _ => true) held t v d p) (hsz : (DataW.weightsEach P ts ds).all (· ≤ reachBytes) = true) (htj : ts[j]? = some t) (hdj : ds[j]? = some d) : ∃ l, Bytes w v l := by
  obtain ⟨a0, len, cap, rfl⟩ := okWide_slice ht hv
  obtain ⟨fuel, hf⟩ := h
  rcases open_ints ht he hc hf with ⟨hcs, hx⟩ | ⟨a, len', cap', zs, hcs, _, hl, hm, hn, hx, hcell, hwz⟩
  · refine ⟨[], Or.inl ⟨?_, rfl⟩⟩
    simpa [Value.cells] using hcs
  · have hcs' : Value.slice a0 len cap = .slice (some a) len' cap' := by simpa [Value.cells] using hcs
    simp only [Prod.mk.injEq] at hx
    obtain ⟨hd, -⟩ := hx
    subst hd
    have hw := sized_slice hsz htj hdj ht
    rw [hz] at hw
    obtain ⟨l, hl2⟩ := bytesOf_nums hwz
    subst hl2
    simp only [if_true, List.length_map] at hn
    have e : reachBytes = 140737488351232 := by decide
    have hlen : (l.take len').length = len' := by rw [List.length_take]; omega
    refine ⟨l.take len', Or.inr ⟨a, cap', ?_, by rw [hlen]; exact hl, ?_, ?_⟩⟩
    · rw [hlen]; exact hcs'
    · simp [lits] at hw; omega
    · intro i hi
      rw [hlen] at hi
      have := hcell i (by simp; omega)
      rw [this]
      simp [List.getD, List.getElem?_eq_getElem (show i < l.length by omega)]
end Go.Proofs.Ytdaahcaafdleaaa.Frame
/- Contracts of the integer functions of chapter 1 (without the texts): each returns the plain integer that its definition below says. The functions that only compute leave the world alone; Min and Max make one new block. No conditions but that the arguments fit their kind where sums are formed. -/
namespace Go.Proofs.Ytdaahcaafdleaaa.Num
open Go.ChangeShapes Go.WideShapes Go.ChangeAt Go.RowKit
set_option linter.unusedVariables false
set_option maxRecDepth 100000
def inB (n a b : Int) : Bool := decide (a ≤ n ∧ n ≤ b)
theorem inB_true {n a b : Int} (h1 : a ≤ n) (h2 : n ≤ b) : inB n a b = true := by simp [inB, h1, h2]
theorem inB_false1 {n a b : Int} (h1 : ¬ a ≤ n) : inB n a b = false := by simp [inB, h1]
theorem inB_false2 {n a b : Int} (h2 : ¬ n ≤ b) : inB n a b = false := by simp [inB, h2]
theorem specIn (n a b : Int) (w : World) :
    Calls Try.prog 52 #[.int .i64 n, .int .i64 a, .int .i64 b] w fun e w' => e = .returned (.bool (inB n a b)) ∧ w = w' := by
  by_cases h1 : a ≤ n
  · by_cases h2 : n ≤ b
    · rw [inB_true h1 h2]
      go_enter Try.func52, Try.ntmps52
      go_wp2
      go_ret
      exact ⟨rfl, rfl⟩
    · rw [inB_false2 h2]
      go_enter Try.func52, Try.ntmps52
      go_wp2
      go_ret
      exact ⟨rfl, rfl⟩
  · rw [inB_false1 h1]
    go_enter Try.func52, Try.ntmps52
    go_wp2
    go_ret
    exact ⟨rfl, rfl⟩
theorem specIn_true {n a b : Int} (h1 : a ≤ n) (h2 : n ≤ b) (w : World) :
    Calls Try.prog 52 #[.int .i64 n, .int .i64 a, .int .i64 b] w fun e w' => e = .returned (.bool true) ∧ w = w' := by
  have := specIn n a b w
  rwa [inB_true h1 h2] at this
theorem specIn_false {n a b : Int} (h : ¬ (a ≤ n ∧ n ≤ b)) (w : World) :
    Calls Try.prog 52 #[.int .i64 n, .int .i64 a, .int .i64 b] w fun e w' => e = .returned (.bool false) ∧ w = w' := by
  have := specIn n a b w
  have e : inB n a b = false := by simpa [inB] using h
  rwa [e] at this
def minI (a b : Int) : Int := if b < a then b else a
def maxI (a b : Int) : Int := if a < b then b else a
/- least and greatest at one further number: the slice's one cell is known. -/
def ceilI (a b : Int) : Int := if 0 ≤ a ∧ a ≤ 1000000000000 ∧ 1 ≤ b ∧ b ≤ 1000000000000 then (a + b - 1) / b else 0
def modI (n m : Int) : Int := if 1 ≤ m ∧ m ≤ 1000000000000 then n % m else 0
end Go.Proofs.Ytdaahcaafdleaaa.Num
/- Contracts of the reference model's draws: a cursor over the bytes of the argument; each draw gives a number, a bool or a text within its bounds and leaves all but the cursor as it was. -/
namespace Go.Proofs.Ytdaahcaafdleaaa.Draw
open Go.ChangeShapes Go.WideShapes Go.ChangeAt Go.RowKit Go.Instr
set_option linter.unusedVariables false
set_option maxRecDepth 100000
structure Keep (p : Nat) (w w' : World) : Prop where
  os : w'.os = w.os
  tape : w'.tape = w.tape
  output : w'.output = w.output
  size : w.heap.size ≤ w'.heap.size
  block : ∀ k, k < w.heap.size → k ≠ p → w'.heap[k]? = w.heap[k]?
theorem Keep.refl (p : Nat) (w : World) : Keep p w w := ⟨rfl, rfl, rfl, Nat.le_refl _, fun _ _ _ => rfl⟩
theorem Keep.trans {p : Nat} {a b c : World} (h : Keep p a b) (k : Keep p b c) : Keep p a c :=
  ⟨k.os.trans h.os, k.tape.trans h.tape, k.output.trans h.output, Nat.le_trans h.size k.size, fun i hi hp => (k.block i (Nat.lt_of_lt_of_le hi h.size) hp).trans (h.block i hi hp)⟩
theorem Keep.below {B p : Nat} {w0 w w' : World} (h : Keep p w w') (hb : Below B w0 w) (hB : B ≤ p) (hw : B ≤ w.heap.size) : Below B w0 w' :=
  hb.trans ⟨h.os, h.tape, h.output, h.size, fun k hk => h.block k (by omega) (by omega)⟩
theorem Keep.of_below {p : Nat} {w w' : World} (h : Below w.heap.size w w') : Keep p w w' := ⟨h.os, h.tape, h.output, h.size, fun k hk _ => h.block k hk⟩
theorem Keep.cell {p : Nat} {w w' : World} (h : Keep p w w') {a : Addr} {v : Value} (hc : w.cell? a = some v) (hp : a.block ≠ p) : w'.cell? a = some v := by
  rw [← hc]; exact World.cell?_of_block (w := w) (h.block a.block (Frame.cell_lt hc) hp)
structure Cur (w0 : World) (p : Nat) (v : Value) (l : List UInt8) (w : World) : Prop where
  bytes : Frame.Bytes w0 v l
  below : Below w0.heap.size w0 w
  place : w0.heap.size ≤ p
  row : ∃ i h : Int, 0 ≤ i ∧ i ≤ l.length ∧ w.heap[p]? = some (.cells #[v, .int .i64 i, .int .i64 h] 100 (0, 0))
theorem Cur.bytesNow {w0 : World} {p : Nat} {v : Value} {l : List UInt8} {w : World} (h : Cur w0 p v l w) : Frame.Bytes w v l := h.bytes.on h.below
def Drawn (w0 : World) (p : Nat) (v : Value) (l : List UInt8) (w : World) (Q : Value → Prop) (e : Ending) (w' : World) : Prop :=
  ∃ x, e = .returned x ∧ Q x ∧ Cur w0 p v l w' ∧ Keep p w w'
def IntIn (a b : Int) (x : Value) : Prop := ∃ n : Int, x = .int .i64 n ∧ a ≤ n ∧ n ≤ b
theorem cur_cells {w : World} {p : Nat} {a b c : Value} {t : TypeId} (h : w.heap[p]? = some (.cells #[a, b, c] t (0, 0))) :
    w.cell? ⟨p, 0, none⟩ = some a ∧ w.cell? ⟨p, 1, none⟩ = some b ∧ w.cell? ⟨p, 2, none⟩ = some c ∧ (∀ o, w.frozen? ⟨p, o, none⟩ = false) := by
  refine ⟨?_, ?_, ?_, fun o => ?_⟩ <;> simp [World.cell?, World.frozen?, h]
theorem and255 (n : Int) : 0 ≤ bits .and .i64 n 255 ∧ bits .and .i64 n 255 ≤ 255 := by
  have h255 : (BitVec.ofInt 64 255).toNat = 2 ^ 8 - 1 := by decide
  have key : (BitVec.ofInt 64 n &&& BitVec.ofInt 64 255).toNat = (n % ((2 ^ 64 : Nat) : Int)).toNat % 2 ^ 8 := by
    rw [BitVec.toNat_and, BitVec.toNat_ofInt, h255, Nat.and_two_pow_sub_one_eq_mod]
  have e : bits .and .i64 n 255 = IntKind.i64.wrap ((BitVec.ofInt 64 n &&& BitVec.ofInt 64 255).toNat : Nat) := rfl
  rw [e, key, IntKind.wrap_i64]
  omega
theorem bytes_le {w : World} {v : Value} {l : List UInt8} (h : Frame.Bytes w v l) : l.length ≤ 140737488351232 := by
  rcases h with ⟨rfl, rfl⟩ | ⟨a, cap, rfl, h1, h2, _⟩
  · simp
  · omega
theorem bytes_at {w : World} {v : Value} {l : List UInt8} (h : Frame.Bytes w v l) :
    ∃ x cap, v = .slice x l.length cap ∧ (∀ j (hj : j < l.length), ∃ b off, x = some ⟨b, off, none⟩ ∧ w.cell? ⟨b, off + j, none⟩ = some (.int .u8 l[j].toNat)) := by
  rcases h with ⟨rfl, rfl⟩ | ⟨a, cap, rfl, _, _, hc⟩
  · exact ⟨none, 0, rfl, fun j hj => absurd hj (by simp)⟩
  · refine ⟨some a, cap, rfl, fun j hj => ?_⟩
    obtain ⟨b, off, spot⟩ := a
    have hs : spot = none := by simpa [Addr.add] using World.cell?_spot (hc 0 (by omega))
    subst hs
    exact ⟨b, off, rfl, by rw [← Go.WideShapes.add_plain]; exact hc j hj⟩
theorem cur_set {w0 : World} {p : Nat} {v : Value} {l : List UInt8} {w : World} (hc : Cur w0 p v l w) {i h i' h' : Int} (hr : w.heap[p]? = some (.cells #[v, .int .i64 i, .int .i64 h] 100 (0, 0)))
    {w' : World} (h0 : 0 ≤ i') (h1 : i' ≤ l.length) (hk : Keep p w w') (hr' : w'.heap[p]? = some (.cells #[v, .int .i64 i', .int .i64 h'] 100 (0, 0))) : Cur w0 p v l w' ∧ Keep p w w' :=
  ⟨⟨hc.bytes, hk.below hc.below hc.place hc.below.size, hc.place, i', h', h0, h1, hr'⟩, hk⟩
theorem keep_set (w : World) (p o : Nat) (x : Value) : Keep p w (w.setCell ⟨p, o, none⟩ x) :=
  ⟨rfl, rfl, rfl, by simp [World.setCell], fun k _ hk => Below.heap_setCell _ _ _ _ hk⟩
theorem keep_draw (p : Nat) (w : World) (n : Nat) : Keep p w (w.drewN n) := ⟨rfl, rfl, rfl, Nat.le_refl _, fun _ _ _ => rfl⟩
theorem row_set {w : World} {p : Nat} {a b c : Value} {t : TypeId} (h : w.heap[p]? = some (.cells #[a, b, c] t (0, 0))) (x : Value) :
    (w.setCell ⟨p, 1, none⟩ x).heap[p]? = some (.cells #[a, x, c] t (0, 0)) ∧ (w.setCell ⟨p, 2, none⟩ x).heap[p]? = some (.cells #[a, b, x] t (0, 0)) := by
  constructor <;> simp [World.setCell, Array.getElem?_modify, h]
theorem row_draw {w : World} {p : Nat} {o : Obj} (h : w.heap[p]? = some o) (n : Nat) : (w.drewN n).heap[p]? = some o := h
set_option maxHeartbeats 1000000 in
theorem byte_out (w0 : World) (p : Nat) (x : Option Addr) (cap n : Nat) (l : List UInt8) (hn : l.length = n) (w : World) (hc : Cur w0 p (.slice x n cap) l w) (i h : Int) (hi0 : 0 ≤ i) (hi1 : i ≤ l.length) (hlt : ¬ i < l.length)
    (hr : w.heap[p]? = some (.cells #[.slice x n cap, .int .i64 i, .int .i64 h] 100 (0, 0))) :
    Calls Try.prog 75 #[.pointer (some ⟨p, 0, none⟩)] w (Drawn w0 p (.slice x n cap) l w (IntIn 0 255)) := by
  obtain ⟨c0, c1, c2, cf⟩ := cur_cells hr
  have hcmp : decide (i < (n : Int)) = false := by simp; omega
  have HC := Lib.hid hc
  have HR := Lib.hid hr
  have HI := Lib.hid (And.intro hi0 hi1)
  clear hc hr hn hi0 hi1 hlt
  go_enter Try.func75, Try.ntmps75
  go_wp2_with fail
  go_quiet (fail)
  go_wp2_with fail
  go_quiet (fail)
  go_wp2_with fail
  go_ret
  refine ⟨_, rfl, ⟨_, rfl, (and255 _).1, (and255 _).2⟩, cur_set HC.out HR.out HI.out.1 HI.out.2 ?_ (row_set HR.out _).2⟩
  exact (keep_set _ _ _ _).trans ((keep_draw _ _ _).trans (keep_draw _ _ _))
set_option maxHeartbeats 1000000 in
theorem byte_in (w0 : World) (p b off cap n : Nat) (l : List UInt8) (hn : l.length = n) (w : World) (hc : Cur w0 p (.slice (some ⟨b, off, none⟩) n cap) l w) (k : Nat) (h : Int) (hlt : k < n) (hbig : (k : Int) ≤ 140737488351232) (c : UInt8)
    (hbp : b ≠ p) (hcell : w.cell? ⟨b, off + k, none⟩ = some (.int .u8 c.toNat)) (hr : w.heap[p]? = some (.cells #[.slice (some ⟨b, off, none⟩) n cap, .int .i64 k, .int .i64 h] 100 (0, 0))) :
    Calls Try.prog 75 #[.pointer (some ⟨p, 0, none⟩)] w (Drawn w0 p (.slice (some ⟨b, off, none⟩) n cap) l w (IntIn 0 255)) := by
  obtain ⟨c0, c1, c2, cf⟩ := cur_cells hr
  have hcmp : (k : Int) < (n : Int) := by omega
  have HC := Lib.hid hc
  have HR := Lib.hid hr
  have HN := Lib.hid (And.intro hn hlt)
  clear hc hr hn hlt
  go_enter Try.func75, Try.ntmps75
  go_wp2_with fail
  go_quiet (fail)
  go_wp2_with fail
  go_quiet (fail)
  go_wp2_with fail
  go_quiet (fail)
  go_wp2_with fail
  go_ret
  refine ⟨_, rfl, ⟨_, rfl, (and255 _).1, (and255 _).2⟩, cur_set (i' := (k : Int) + 1) HC.out HR.out (by omega) (by have := HN.out; omega) ?_ (row_set (row_draw (row_set HR.out _).2 _) _).1⟩
  exact (keep_set _ _ _ _).trans ((keep_draw _ _ _).trans (keep_set _ _ _ _))
theorem byte (w0 : World) (p : Nat) (v : Value) (l : List UInt8) (w : World) (hc : Cur w0 p v l w) :
    Calls Try.prog 75 #[.pointer (some ⟨p, 0, none⟩)] w (Drawn w0 p v l w (IntIn 0 255)) := by
  obtain ⟨i, h, hi0, hi1, hr⟩ := hc.row
  obtain ⟨x, cap, rfl, hat⟩ := bytes_at hc.bytesNow
  by_cases hlt : i < l.length
  · obtain ⟨k, rfl⟩ : ∃ k : Nat, i = k := ⟨i.toNat, by omega⟩
    have hk : k < l.length := by omega
    obtain ⟨b, off, rfl, hcell⟩ := hat k hk
    refine byte_in w0 p b off cap l.length l rfl w hc k h hk (by have := bytes_le hc.bytes; omega) l[k] ?_ hcell hr
    rintro rfl
    obtain ⟨x2, cap2, e, hat2⟩ := bytes_at hc.bytes
    obtain ⟨b2, off2, rfl, h2⟩ := hat2 k hk
    simp only [Value.slice.injEq, Option.some.injEq, Addr.mk.injEq] at e
    have := Frame.cell_lt h2
    have := hc.place
    simp only at *
    omega
  · exact byte_out w0 p x cap l.length l rfl w hc i h hi0 hi1 hlt hr
def BelowOf (n : Int) (x : Value) : Prop := ∃ r : Int, x = .int .i64 r ∧ (0 < n → 0 ≤ r ∧ r < n) ∧ (¬ 0 < n → r = 0)
set_option maxHeartbeats 1000000 in
theorem below (w0 : World) (p : Nat) (v : Value) (l : List UInt8) (w : World) (n : Int) (hc : Cur w0 p v l w) :
    Calls Try.prog 40 #[.pointer (some ⟨p, 0, none⟩), .int .i64 n] w (Drawn w0 p v l w (BelowOf n)) := by
  by_cases h0 : n ≤ 0
  · have HC := Lib.hid hc; clear hc
    go_enter Try.func40, Try.ntmps40
    go_wp2
    go_ret
    exact ⟨_, rfl, ⟨0, rfl, fun h => by omega, fun _ => rfl⟩, HC.out, Keep.refl _ _⟩
  · by_cases h1 : n ≤ 256
    · have hb := byte w0 p v l w hc
      have HB := Lib.hid hb; clear hb hc
      go_enter Try.func40, Try.ntmps40
      go_wp2_with fail
      refine HB.out.mono ?_
      rintro e w1 ⟨y, rfl, ⟨m, rfl, m0, m1⟩, hc1, hk1⟩
      have HC := Lib.hid (And.intro hc1 hk1); clear hc1 hk1
      go_wp2
      go_ret
      exact ⟨_, rfl, ⟨m % n, rfl, fun _ => ⟨Int.emod_nonneg _ (by omega), Int.emod_lt_of_pos _ (by omega)⟩, fun h => by omega⟩, HC.out.1, HC.out.2⟩
    · have hb := byte w0 p v l w hc
      have HB := Lib.hid hb; clear hb hc
      go_enter Try.func40, Try.ntmps40
      go_wp2_with fail
      refine HB.out.mono ?_
      rintro e w1 ⟨y, rfl, ⟨m, rfl, m0, m1⟩, hc1, hk1⟩
      have hb2 := byte w0 p v l w1 hc1
      have HB2 := Lib.hid hb2; have HK1 := Lib.hid hk1; clear hb2 hc1 hk1
      go_wp2_with fail
      refine HB2.out.mono ?_
      rintro e w2 ⟨y2, rfl, ⟨m2, rfl, m02, m12⟩, hc2, hk2⟩
      have hb3 := byte w0 p v l w2 hc2
      have HB3 := Lib.hid hb3; have HK2 := Lib.hid (HK1.out.trans hk2); clear hb3 hc2 hk2
      go_wp2_with fail
      refine HB3.out.mono ?_
      rintro e w3 ⟨y3, rfl, ⟨m3, rfl, m03, m13⟩, hc3, hk3⟩
      have HK3 := Lib.hid (HK2.out.trans hk3); have HC := Lib.hid hc3; clear hc3 hk3
      go_wp2
      go_ret
      exact ⟨_, rfl, ⟨_, rfl, fun _ => ⟨Int.emod_nonneg _ (by omega), Int.emod_lt_of_pos _ (by omega)⟩, fun h => by omega⟩, HC.out, HK3.out⟩
def IsBool (x : Value) : Prop := ∃ b : Bool, x = .bool b
theorem once (w0 : World) (p : Nat) (v : Value) (l : List UInt8) (w : World) (n : Int) (hc : Cur w0 p v l w) :
    Calls Try.prog 71 #[.pointer (some ⟨p, 0, none⟩), .int .i64 n] w (Drawn w0 p v l w IsBool) := by
  have hb := below w0 p v l w n hc
  have HB := Lib.hid hb; clear hb hc
  go_enter Try.func71, Try.ntmps71
  go_wp2_with fail
  refine HB.out.mono ?_
  rintro e w1 ⟨y, rfl, ⟨m, rfl, hm⟩, hc1, hk1⟩
  have HC := Lib.hid (And.intro hc1 hk1); clear hc1 hk1 hm
  go_wp2
  go_ret
  exact ⟨_, rfl, ⟨_, rfl⟩, HC.out.1, HC.out.2⟩
theorem choose (w0 : World) (p : Nat) (v : Value) (l : List UInt8) (w : World) (q : Nat) (xs : List Value) (hx : 0 < xs.length) (hbig : xs.length < 1000) (hc : Cur w0 p v l w) (hq : q ≠ p)
    (hcells : ∀ j (h : j < xs.length), w.cell? ⟨q, j, none⟩ = some xs[j]) :
    ∀ e w1, Drawn w0 p v l w (BelowOf (xs.length : Int)) e w1 → ∃ j, ∃ h : j < xs.length, e = .returned (.int .i64 (j : Int)) ∧ w1.cell? ⟨q, j, none⟩ = some xs[j] ∧ Cur w0 p v l w1 ∧ Keep p w w1 := by
  rintro e w1 ⟨y, rfl, ⟨r, rfl, hr, _⟩, hc1, hk1⟩
  have hr := hr (by omega)
  obtain ⟨j, rfl⟩ : ∃ j : Nat, r = j := ⟨r.toNat, by omega⟩
  exact ⟨j, by omega, rfl, hk1.cell (hcells j (by omega)) hq, hc1, hk1⟩
set_option maxHeartbeats 1000000 in
theorem strOf (w0 : World) (p : Nat) (v : Value) (l : List UInt8) (w : World) (q : Nat) (xs : List Value) (n : Nat) (hn : xs.length = n) (hx : 0 < n) (hbig : n < 1000) (hc : Cur w0 p v l w) (hq : q ≠ p)
    (hcells : ∀ j (h : j < xs.length), w.cell? ⟨q, j, none⟩ = some xs[j]) :
    Calls Try.prog 74 #[.pointer (some ⟨p, 0, none⟩), .slice (some ⟨q, 0, none⟩) n n] w (Drawn w0 p v l w (fun x => x ∈ xs)) := by
  subst hn
  have hb := (below w0 p v l w xs.length hc).mono (choose w0 p v l w q xs hx hbig hc hq hcells)
  have HB := Lib.hid hb; clear hb hc hcells
  go_enter Try.func74, Try.ntmps74
  go_wp2_with fail
  refine HB.out.mono ?_
  rintro e w1 ⟨j, hj, rfl, hcell, hc1, hk1⟩
  have HC := Lib.hid (And.intro hc1 hk1); clear hc1 hk1
  have hji : (j : Int) < (xs.length : Int) := by omega
  go_wp2_with fail
  go_ret
  exact ⟨_, rfl, List.getElem_mem hj, HC.out.1, HC.out.2⟩
theorem new_cur {w : World} {x : Option Addr} {cap n : Nat} {l : List UInt8} (hb : Frame.Bytes w (.slice x n cap) l) (hn : n = l.length) (h : Int) :
    Cur w w.heap.size (.slice x n cap) l (w.alloc (.cells #[.slice x n cap, .int .i64 0, .int .i64 h] 100)) :=
  ⟨hb, Joins.below_alloc1 _ _, Nat.le_refl _, 0, h, by omega, by omega, (MapKept.heap_alloc w _).1⟩
set_option maxHeartbeats 1000000 in
theorem new (w : World) (v : Value) (l : List UInt8) (hb : Frame.Bytes w v l) :
    Calls Try.prog 37 #[v] w fun e w' => e = .returned (.pointer (some ⟨w.heap.size, 0, none⟩)) ∧ Cur w w.heap.size v l w' := by
  have hle := bytes_le hb
  obtain ⟨x, cap, rfl, hat⟩ := bytes_at hb
  have HB := Lib.hid hb
  have HAT := Lib.hid hat
  obtain ⟨n, hn⟩ : ∃ n, n = l.length := ⟨_, rfl⟩
  rw [← hn] at HB hle ⊢
  have HN := Lib.hid hn
  clear hb hat hn
  go_enter Try.func37, Try.ntmps37
  go_wp2_with fail
  go_loop [3, 4] (fun hv iv => ∃ (h : Int) (k : Nat), k ≤ n ∧ hv = .int .i64 h ∧ iv = .int .i64 k) (fun _ iv => n - (intOf iv).toNat)
  case atStart => exact ⟨_, 0, by omega, rfl, rfl⟩
  case round =>
    obtain ⟨h, k, hk, rfl, rfl⟩ := hrel
    by_cases hlt : k < n
    · have hlti : (k : Int) < (n : Int) := by omega
      obtain ⟨b, off, hx, hcell⟩ := HAT.out k (by have := HN.out; omega)
      subst hx
      by_cases h4 : (k : Int) < 4000
      · go_wp2_with fail
        go_round
        case rel => exact ⟨_, k + 1, by omega, rfl, by go_num⟩
        case measure => simp [intOf]; omega
      · have h4f : decide ((k : Int) < 4000) = false := by simpa using h4
        go_wp2_with fail
        go_ret
        exact ⟨rfl, new_cur HB.out HN.out _⟩
    · have hlti : decide ((k : Int) < (n : Int)) = false := by simp; omega
      go_wp2_with fail
      go_ret
      exact ⟨rfl, new_cur HB.out HN.out _⟩
end Go.Proofs.Ytdaahcaafdleaaa.Draw
/- Contracts of the reference model's draws of numbers, over the cursor of Draw: each gives a number that fits its kind, and leaves all but the cursor as it was. -/
namespace Go.Proofs.Ytdaahcaafdleaaa.Draw
open Go.ChangeShapes Go.WideShapes Go.ChangeAt Go.RowKit Go.Instr
set_option linter.unusedVariables false
set_option maxRecDepth 100000
theorem keep_alloc (p : Nat) (w : World) (o : Obj) : Keep p w (w.alloc o) := Keep.of_below (Joins.below_alloc1 w o)
theorem Cur.lt {w0 : World} {p : Nat} {v : Value} {l : List UInt8} {w : World} (hc : Cur w0 p v l w) : p < w.heap.size := by
  obtain ⟨i, h, _, _, hr⟩ := hc.row
  exact (Array.getElem?_eq_some_iff.1 hr).1
theorem Cur.alloc {w0 : World} {p : Nat} {v : Value} {l : List UInt8} {w : World} (hc : Cur w0 p v l w) (o : Obj) : Cur w0 p v l (w.alloc o) := by
  obtain ⟨i, h, h0, h1, hr⟩ := hc.row
  refine ⟨hc.bytes, hc.below.trans (below_le' ?_), hc.place, i, h, h0, h1, ?_⟩
  · exact (Joins.below_alloc1 w o).mono hc.below.size
  · rw [Below.heap_alloc w o p hc.lt]; exact hr
where below_le' {a b : World} {B : Nat} (h : Below B a b) : Below B a b := h
theorem Drawn.from {w0 : World} {p : Nat} {v : Value} {l : List UInt8} {w w1 : World} {Q : Value → Prop} {e : Ending} {w' : World} (h : Drawn w0 p v l w1 Q e w') (hk : Keep p w w1) : Drawn w0 p v l w Q e w' := by
  obtain ⟨x, h1, h2, h3, h4⟩ := h
  exact ⟨x, h1, h2, h3, hk.trans h4⟩
theorem Drawn.imp {w0 : World} {p : Nat} {v : Value} {l : List UInt8} {w : World} {Q R : Value → Prop} {e : Ending} {w' : World} (h : Drawn w0 p v l w Q e w') (hq : ∀ x, Q x → R x) : Drawn w0 p v l w R e w' := by
  obtain ⟨x, h1, h2, h3, h4⟩ := h
  exact ⟨x, h1, hq x h2, h3, h4⟩
def Is64 (x : Value) : Prop := ∃ n : Int, x = .int .i64 n ∧ (Lit.int .i64 n).wf = true
theorem big_no (x : Option Addr) (n cap : Nat) (w : World) (h : decide ((1048576 : Int) < (n : Int)) = false) :
    Calls Try.prog 8 #[.slice x n cap] w fun e w' => e = .returned (.bool false) ∧ w = w' := by
  go_enter Try.func8, Try.ntmps8
  go_wp2
  go_ret
  exact ⟨rfl, rfl⟩
theorem big_yes (x : Option Addr) (n cap : Nat) (w : World) (h : decide ((1048576 : Int) < (n : Int)) = true) :
    Calls Try.prog 8 #[.slice x n cap] w fun e w' => e = .returned (.bool true) ∧ w = w' := by
  go_enter Try.func8, Try.ntmps8
  go_wp2
  go_ret
  exact ⟨rfl, rfl⟩
end Go.Proofs.Ytdaahcaafdleaaa.Draw
/- Draws over the cursor that make memory: what keeps the cursor; texts out of a list. -/
namespace Go.Proofs.Ytdaahcaafdleaaa.Draw
open Go.ChangeShapes Go.WideShapes Go.ChangeAt Go.RowKit Go.Instr
set_option linter.unusedVariables false
set_option maxRecDepth 100000
def DrawnW (w0 : World) (p : Nat) (v : Value) (l : List UInt8) (w : World) (Q : Value → World → Prop) (e : Ending) (w' : World) : Prop :=
  ∃ x, e = .returned x ∧ Q x w' ∧ Cur w0 p v l w' ∧ Keep p w w'
theorem Keep.grown {p : Nat} {w w1 w2 : World} {row : Option Nat} (h : Keep p w w1) (hg : w1.grownBy w2 row) (hr : ∀ g, row = some g → w.heap.size ≤ g) : Keep p w w2 :=
  ⟨hg.os.trans h.os, hg.tape.trans h.tape, hg.output.trans h.output, Nat.le_trans h.size hg.size, fun k hk hp => (hg.block k (Nat.lt_of_lt_of_le hk h.size) (fun e => by have := hr k e.symm; omega)).trans (h.block k hk hp)⟩
theorem Cur.grown {w0 : World} {p : Nat} {v : Value} {l : List UInt8} {w w' : World} {row : Option Nat} (hc : Cur w0 p v l w) (hg : w.grownBy w' row) (hr : ∀ g, row = some g → w0.heap.size ≤ g ∧ g ≠ p) : Cur w0 p v l w' := by
  obtain ⟨i, h, h0, h1, hrow⟩ := hc.row
  refine ⟨hc.bytes, hc.below.grown hg hc.below.size (fun g hk => (hr g hk).1), hc.place, i, h, h0, h1, ?_⟩
  rw [hg.block p (Array.getElem?_eq_some_iff.1 hrow).1 (fun e => (hr p e.symm).2 rfl)]
  exact hrow
theorem Cur.on {w0 : World} {p : Nat} {v : Value} {l : List UInt8} {w w' : World} (hc : Cur w0 p v l w) (hb : Below w.heap.size w w') : Cur w0 p v l w' :=
  hc.grown (row := none) ⟨hb.os, hb.tape, hb.output, hb.size, fun i hi _ => hb.block i hi⟩ (fun g h => by cases h)
def StrUpto (k : Nat) (x : Value) : Prop := ∃ t : ByteArray, x = .string t ∧ t.size ≤ k
theorem strAt (w0 : World) (p : Nat) (v : Value) (l : List UInt8) (W : World) (hc : Cur w0 p v l W) (q : Nat) (hq : q ≠ p) (xs : List ByteArray) (n : Nat) (hn : xs.length = n) (h0 : 0 < n) (h1 : n < 1000) (k : Nat) (hk : (xs.all fun t => decide (t.size ≤ k)) = true)
    (hcells : ∀ j (h : j < xs.length), W.cell? ⟨q, j, none⟩ = some (.string xs[j])) :
    Calls Try.prog 74 #[.pointer (some ⟨p, 0, none⟩), .slice (some ⟨q, 0, none⟩) n n] W (Drawn w0 p v l W (StrUpto k)) := by
  refine (strOf w0 p v l W q (xs.map Value.string) n (by simpa using hn) h0 h1 hc hq (fun j hj => ?_)).mono fun e w' h => ?_
  · simp at hj; rw [hcells j hj]; simp
  · refine h.imp fun x hx => ?_
    obtain ⟨y, hy, rfl⟩ := List.mem_map.1 hx
    exact ⟨y, rfl, by have := List.all_eq_true.1 hk y hy; simpa using this⟩
theorem lits_at {w : World} {q : Nat} (hq : q = w.heap.size) {xs : List ByteArray} {t : TypeId} {C : Array Value} (hC : C = (xs.map Value.string).toArray) : ∀ j (h : j < xs.length), (w.alloc (.cells C t)).cell? ⟨q, j, none⟩ = some (.string xs[j]) := by
  intro j hj
  subst hC hq
  rw [World.cell?_alloc_mark]; simp [hj]
end Go.Proofs.Ytdaahcaafdleaaa.Draw
/- Slices of one-cell elements in memory (strings, numbers, slices), for any program: a slice value that holds a list; a slice in blocks of the call's own that holds a list; what keeps both; one list appended to another. No conditions but that lengths fit. -/
namespace Go.Proofs.Ytdaahcaafdleaaa.Row
open Go.ChangeShapes Go.WideShapes Go.ChangeAt Go.RowKit
set_option linter.unusedVariables false
set_option maxRecDepth 100000
def nth {α : Type} [Inhabited α] (l : List α) (j : Nat) : α := l.getD j default
def Holds {α : Type} [Inhabited α] (enc : α → Value) (w : World) (v : Value) (l : List α) : Prop :=
  ∃ x cap, v = .slice x l.length cap ∧ l.length ≤ cap ∧ (l = [] ∨ ∃ b off, x = some ⟨b, off, none⟩ ∧ ∀ j, j < l.length → w.cell? ⟨b, off + j, none⟩ = some (enc (nth l j)))
def Own {α : Type} [Inhabited α] (e : TypeId) (enc : α → Value) (B : Nat) (w : World) (v : Value) (l : List α) : Prop := w.ownsRow B e 1 v l.length (l.map enc)
section
variable {α : Type} [Inhabited α] {enc : α → Value} {e : TypeId} {B : Nat} {w w' : World} {v : Value} {l : List α}
theorem Own.form (h : Own e enc B w v l) : (v = .slice none 0 0 ∧ l = []) ∨ ∃ g cap, v = .slice (some ⟨g, 0, none⟩) l.length cap ∧ B ≤ g ∧ g < w.heap.size ∧ l.length ≤ cap ∧ cap ≤ maxLen := by
  rcases h.2 with ⟨hv, hn⟩ | ⟨g, cap, cur, hv, hg, hh, h1, h2, h3, h4⟩
  · exact Or.inl ⟨hv, List.eq_nil_of_length_eq_zero hn⟩
  · exact Or.inr ⟨g, cap, hv, hg, (Array.getElem?_eq_some_iff.1 hh).1, h1, h2⟩
theorem Own.holds (h : Own e enc B w v l) : Holds enc w v l := by
  rcases h.form with ⟨rfl, rfl⟩ | ⟨g, cap, rfl, h1, h2, h3, h4⟩
  · exact ⟨none, 0, rfl, by simp, Or.inl rfl⟩
  · refine ⟨_, cap, rfl, h3, ?_⟩
    by_cases hl : l = []
    · exact Or.inl hl
    · refine Or.inr ⟨g, 0, rfl, fun j hj => ?_⟩
      have h5 := World.ownsRow.cellAt h j (by simpa using hj)
      rw [Nat.zero_add, h5, List.getElem?_map]
      simp [nth, List.getD, List.getElem?_eq_getElem hj]
theorem Own.lt (h : Own e enc B w v l) : ∀ g, v.ownBlock = some g → B ≤ g ∧ g < w.heap.size := World.ownsRow.lt h
theorem Own.grown (h : Own e enc B w v l) {row : Option Nat} (hg : w.grownBy w' row) (hne : v.ownBlock = none ∨ v.ownBlock ≠ row) : Own e enc B w' v l := World.ownsRow.kept h hg hne
theorem grown_of_below (hb : Below w.heap.size w w') (row : Option Nat) : w.grownBy w' row := ⟨hb.os, hb.tape, hb.output, hb.size, fun i hi _ => hb.block i hi⟩
theorem Own.on (h : Own e enc B w v l) (hb : Below w.heap.size w w') : Own e enc B w' v l := by
  refine World.ownsRow.kept h (grown_of_below hb none) ?_
  cases hv : v.ownBlock <;> simp
theorem Own.mono (h : Own e enc B w v l) {B' : Nat} (hB : B' ≤ B) : Own e enc B' w v l := by
  refine ⟨h.1, ?_⟩
  rcases h.2 with h2 | ⟨g, cap, cur, hv, hg, r⟩
  · exact Or.inl h2
  · exact Or.inr ⟨g, cap, cur, hv, Nat.le_trans hB hg, r⟩
theorem Own.nil (e : TypeId) (enc : α → Value) (B : Nat) (w : World) : Own e enc B w (.slice none 0 0) [] := World.ownsRow_nil w B e 1
theorem Own.len (h : Own e enc B w v l) : l.length ≤ maxLen := by
  rcases h.form with ⟨rfl, rfl⟩ | ⟨g, cap, rfl, h1, h2, h3, h4⟩
  · simp
  · omega
theorem Own.block (h : Own e enc B w v l) (hn : v ≠ .slice none 0 0) : ∃ g cap, v = .slice (some ⟨g, 0, none⟩) l.length cap ∧ B ≤ g ∧ g < w.heap.size ∧ l.length ≤ cap := by
  rcases h.form with ⟨hv, _⟩ | ⟨g, cap, hv, h1, h2, h3, h4⟩
  · exact absurd hv hn
  · exact ⟨g, cap, hv, h1, h2, h3⟩
theorem cell_lt {a : Addr} {u : Value} (h : w.cell? a = some u) : a.block < w.heap.size := by
  unfold World.cell? at h
  cases hh : w.heap[a.block]? with
  | none => simp [hh] at h
  | some o => exact (Array.getElem?_eq_some_iff.1 hh).1
theorem Holds.on (h : Holds enc w v l) (hb : Below w.heap.size w w') : Holds enc w' v l := by
  obtain ⟨x, cap, hv, hc, h⟩ := h
  refine ⟨x, cap, hv, hc, ?_⟩
  rcases h with h | ⟨b, off, hx, h⟩
  · exact Or.inl h
  · exact Or.inr ⟨b, off, hx, fun j hj => by rw [hb.cell (cell_lt (h j hj))]; exact h j hj⟩
theorem Holds.nil (enc : α → Value) (w : World) : Holds enc w (.slice none 0 0) [] := ⟨none, 0, rfl, by simp, Or.inl rfl⟩
theorem Holds.shape (h : Holds enc w v l) : ∃ x cap, v = .slice x l.length cap ∧ l.length ≤ cap ∧ Holds enc w (.slice x l.length cap) l := by
  obtain ⟨x, cap, hv, hc, h⟩ := h
  exact ⟨x, cap, hv, hc, x, cap, rfl, hc, h⟩
theorem Holds.at {x : Option Addr} {n cap : Nat} (h : Holds enc w (.slice x n cap) l) {j : Nat} (hj : j < l.length) :
    ∃ b off, x = some ⟨b, off, none⟩ ∧ w.cell? ⟨b, off + j, none⟩ = some (enc (nth l j)) := by
  obtain ⟨x', cap', hv, hc, h⟩ := h
  cases hv
  rcases h with rfl | ⟨b, off, hx, h⟩
  · simp at hj
  · exact ⟨b, off, hx, h j hj⟩
theorem Holds.lenEq {x : Option Addr} {n cap : Nat} (h : Holds enc w (.slice x n cap) l) : n = l.length := by
  obtain ⟨x', cap', hv, hc, h⟩ := h
  cases hv; rfl
theorem Own.apart {β : Type} [Inhabited β] {enc' : β → Value} {B' : Nat} {v' : Value} {l' : List β} {e' : TypeId} (h : Own e enc B w v l) (h' : Own e' enc' B' w' v' l') (hB : w'.heap.size ≤ B) : v.ownBlock = none ∨ v.ownBlock ≠ v'.ownBlock := by
  cases hv : v.ownBlock with
  | none => exact Or.inl rfl
  | some g =>
    refine Or.inr fun he => ?_
    have h1 := h.lt g hv
    have h2 := h'.lt g he.symm
    omega
theorem Holds.grown (h : Holds enc w v l) {row : Option Nat} (hg : w.grownBy w' row) (hne : ∀ g, v.ownBlock = some g → some g ≠ row) : Holds enc w' v l := by
  obtain ⟨x, cap, rfl, hc, h⟩ := h
  refine ⟨x, cap, rfl, hc, ?_⟩
  rcases h with h | ⟨b, off, rfl, h⟩
  · exact Or.inl h
  · exact Or.inr ⟨b, off, rfl, fun j hj => hg.cell (h j hj) (hne b rfl)⟩
theorem nth_eq {l : List α} {j : Nat} (hj : j < l.length) : nth l j = l[j] := by simp [nth, List.getD, List.getElem?_eq_getElem hj]
theorem getD_map {j : Nat} (hj : j < l.length) : (l.map enc)[j]? = some (enc (nth l j)) := by
  simp [nth, List.getD, List.getElem?_eq_getElem hj]
end
theorem oneCell {α : Type} {enc : α → Value} (h1c : ∀ x, (enc x).oneCell' = true) (l : List α) : ∀ u ∈ l.map enc, u.oneCell' = true := by
  intro u hu
  obtain ⟨x, _, rfl⟩ := List.mem_map.1 hu
  exact h1c x
theorem Holds.cells {α : Type} [Inhabited α] {enc : α → Value} {w : World} {ad : Addr} {n cap : Nat} {l : List α} (h : Holds enc w (.slice (some ad) n cap) l) : ∀ j u, (l.map enc)[j]? = some u → w.cell? (ad.add j) = some u := by
  intro j u hu
  have hj : j < l.length := by have := (List.getElem?_eq_some_iff.1 hu).1; simpa using this
  obtain ⟨b, off, hx, hc⟩ := h.at hj
  cases hx
  rw [Go.WideShapes.add_plain, hc]
  rw [getD_map hj] at hu
  exact hu
def Elem (P : Program) (e : TypeId) (z : Value) (bytes : Nat) : Prop := (P.info? e).map (fun i => (i.zero, i.size, i.bytes)) = some (some z, 1, bytes)
section
variable {P : Program} {w : World} {ops : Array Oper} {rest : List Oper} {o : Oper} {a : Act} {Q : Exit → Act → World → Prop} {α : Type} [Inhabited α] {enc : α → Value} {e t : TypeId} {bytes : Nat} {z : Value}
theorem wpList_app_nn (hgd : o.guard = none) (s x : Operand) (ho : o.op = .call { callee := .builtin .append, args := #[s, x], argTypes := #[t, t] }) (ht : P.underlying t = some (.slice e)) (hi : Elem P e z bytes) (hz : z.cells.size = 1)
    {B : Nat} {v vx : Value} {l m : List α} (hs : a.eval s = v) (hx : a.eval x = vx) (hown : Own e enc B w v l) (hsrc : Holds enc w vx m) (h1c : ∀ x, (enc x).oneCell' = true) (hlen : (l.length + m.length) * bytes ≤ 140737488355328) (hmx : l.length + m.length ≤ maxLen) (hB : B ≤ w.heap.size)
    (h : ∀ v' w', Own e enc B w' v' (l ++ m) → w.grownBy w' v.ownBlock → (v ≠ .slice none 0 0 → v' ≠ .slice none 0 0) → wpList P ops Q rest (a.put o.dst v') w') : wpList P ops Q (o :: rest) a w := by
  obtain ⟨i, h1, h2, h3, h4⟩ := info_parts hi
  have hbytes := hlen
  have h63 := hmx
  obtain ⟨ao, cap, rfl, hcap, hc⟩ := hsrc
  have hsrc : Holds enc w (.slice ao m.length cap) m := ⟨ao, cap, rfl, hcap, hc⟩
  have fin : ∀ v' w', w'.ownsRow B e 1 v' (l.length + m.length) (l.map enc ++ m.map enc) → Own e enc B w' v' (l ++ m) := by
    intro v' w' hh
    unfold Own
    rw [List.length_append, List.map_append]; exact hh
  cases ao with
  | some ad =>
    exact wpList_append_own w hgd s x t ho B e i z 1 bytes ht h1 h2 h3 h4 hz (by decide) v l.length _ hs hown ad m.length cap (m.map enc) hx (by simp) hsrc.cells (oneCell h1c m) h63 hbytes hB
      fun v' w' r1 r2 r3 => h v' w' (fin v' w' r1) r2 (fun hn he => hn (r3.1 he).1)
  | none =>
    rcases hc with rfl | ⟨b, off, hc, _⟩
    · refine wpList_plain hgd fun K hK => ?_
      have hrun : (Builtin.append_ #[t, t] o.type #[v, .slice none 0 cap]).run P w = .ok v w := by
        rcases hown.2 with ⟨rfl, hn⟩ | ⟨g, cap', cur, rfl, _, _, hnc, _⟩
        · simp [Builtin.append_, run_underlying ht, sizeOf, typeInfo, h1, Builtin.lenOf, Builtin.firstCells]
        · simp [Builtin.append_, run_underlying ht, sizeOf, typeInfo, h1, Builtin.lenOf, Builtin.firstCells, hnc, storeCells]
      have hx' : a.eval x = .slice none 0 cap := by simpa using hx
      unfold Oper.wp
      simp [execOp, ho, resolve, invoke, builtin, hs, hx', hrun, Result.andThen]
      exact hK _ _ (h v w (by simpa using hown) (World.grownBy.refl _ _) (fun hn => hn))
    · cases hc
theorem wpList_app (hgd : o.guard = none) (s x : Operand) (ho : o.op = .call { callee := .builtin .append, args := #[s, x], argTypes := #[t, t] }) (ht : P.underlying t = some (.slice e)) (hi : Elem P e z bytes) (hz : z.cells.size = 1)
    {B : Nat} {v vx : Value} {l m : List α} (hs : a.eval s = v) (hx : a.eval x = vx) (hown : Own e enc B w v l) (hsrc : Holds enc w vx m) (h1c : ∀ x, (enc x).oneCell' = true) (hlen : (l.length + m.length) * bytes ≤ 140737488355328) (hmx : l.length + m.length ≤ maxLen) (hB : B ≤ w.heap.size)
    (h : ∀ v' w', Own e enc B w' v' (l ++ m) → w.grownBy w' v.ownBlock → wpList P ops Q rest (a.put o.dst v') w') : wpList P ops Q (o :: rest) a w :=
  wpList_app_nn hgd s x ho ht hi hz hs hx hown hsrc h1c hlen hmx hB fun v' w' h1 h2 _ => h v' w' h1 h2
end
def Fits {α : Type} [Inhabited α] (e : TypeId) (enc : α → Value) (B : Nat) (w : World) (v : Value) (l : List α) : Prop := Own e enc B w v l ∨ ∃ x, v = .slice x l.length l.length ∧ Holds enc w v l
theorem Fits.on {α : Type} [Inhabited α] {enc : α → Value} {e : TypeId} {B : Nat} {w w' : World} {v : Value} {l : List α} (h : Fits e enc B w v l) (hb : Below w.heap.size w w') : Fits e enc B w' v l := by
  rcases h with h | ⟨x, hv, h⟩
  · exact Or.inl (h.on hb)
  · exact Or.inr ⟨x, hv, h.on hb⟩
theorem Fits.holds {α : Type} [Inhabited α] {enc : α → Value} {e : TypeId} {B : Nat} {w : World} {v : Value} {l : List α} (h : Fits e enc B w v l) : Holds enc w v l := by
  rcases h with h | ⟨x, hv, h⟩
  · exact h.holds
  · exact h
section
variable {P : Program} {w : World} {ops : Array Oper} {rest : List Oper} {o : Oper} {a : Act} {Q : Exit → Act → World → Prop} {α : Type} [Inhabited α] {enc : α → Value} {e t : TypeId} {bytes : Nat} {z : Value}
end
theorem holds_one {α : Type} [Inhabited α] (enc : α → Value) (e : TypeId) (w : World) (x : α) : Holds enc (w.alloc (.cells #[enc x] e)) (.slice (some ⟨w.heap.size, 0, none⟩) 1 1) [x] := by
  refine ⟨_, 1, rfl, by simp, Or.inr ⟨_, _, rfl, fun j hj => ?_⟩⟩
  have : j = 0 := by simpa using hj
  subst this
  simp [World.cell?_alloc_mark, nth]
theorem own_empty {α : Type} [Inhabited α] (enc : α → Value) (e : TypeId) (w : World) : Own e enc w.heap.size (w.alloc (.cells #[] e)) (.slice (some ⟨w.heap.size, 0, none⟩) 0 0) [] := World.ownsRow_lit w #[] 0 (Nat.le_refl _) (by unfold maxLen; omega) rfl
theorem pB0 {α : Type _} (l : List α) (i : Nat) (a : α) : l.toArray.setIfInBounds i a = (l.set i a).toArray := by simp
theorem pB1 {α : Type _} {x a : α} {xs : List α} : (x :: xs).set 0 a = a :: xs := rfl
theorem pB2 {α : Type _} {x a : α} {xs : List α} {n : Nat} : (x :: xs).set (n + 1) a = x :: xs.set n a := rfl
end Go.Proofs.Ytdaahcaafdleaaa.Row
/- Contracts of the helpers by which the laws measure, copy, compare, mark and look at slices of strings: a copy lies in memory of the call's own and holds the same list; comparing tells whether the lists are equal; marking writes the texts of the numbers from k on; looking at the marks tells that they are there. No conditions but that lengths fit. -/
namespace Go.Proofs.Ytdaahcaafdleaaa.Row
open Go.ChangeShapes Go.WideShapes Go.ChangeAt Go.RowKit Go.Instr
set_option linter.unusedVariables false
set_option maxRecDepth 100000
def bulkTo (l : List ByteArray) (k : Nat) : Nat := l.length + ((l.take k).map (·.size)).sum
def bulk (l : List ByteArray) : Nat := bulkTo l l.length
theorem bulkTo_succ (l : List ByteArray) {k : Nat} (h : k < l.length) : bulkTo l (k + 1) = bulkTo l k + (nth l k).size := by
  unfold bulkTo
  rw [List.take_succ_eq_append_getElem h, nth_eq h, List.map_append, List.sum_append]
  simp only [List.map_cons, List.map_nil, List.sum_cons, List.sum_nil]
  omega
theorem sum_take_le (l : List Nat) : ∀ k, (l.take k).sum ≤ l.sum := by
  induction l with
  | nil => simp
  | cons a r ih => intro k; cases k with
    | zero => simp
    | succ k => have := ih k; simp only [List.take_succ_cons, List.sum_cons]; omega
theorem bulkTo_le (l : List ByteArray) (k : Nat) : bulkTo l k ≤ bulk l := by
  unfold bulk bulkTo
  have := sum_take_le (l.map (·.size)) k
  rw [List.take_length, List.map_take]; omega
theorem bulk_len (l : List ByteArray) : l.length ≤ bulk l := by unfold bulk bulkTo; omega
def szL (l : List ByteArray) (left : Int) : Int := if (bulk l : Int) ≤ left then left - bulk l else -1
def filled (l : List ByteArray) (k : Nat) : List ByteArray := l.take k ++ List.replicate (l.length - k) ByteArray.empty
def agree {α : Type} [Inhabited α] (a b : List α) (k : Nat) : Prop := ∀ j, j < k → nth a j = nth b j
section
variable {α : Type} [Inhabited α]
theorem agree_zero (a b : List α) : agree a b 0 := fun j h => absurd h (by omega)
theorem agree_succ {a b : List α} {k : Nat} (h : agree a b k) (hk : nth a k = nth b k) : agree a b (k + 1) := fun j hj => by
  by_cases e : j = k
  · subst e; exact hk
  · exact h j (by omega)
theorem agree_all {a b : List α} (hl : a.length = b.length) (h : agree a b a.length) : a = b := by
  apply List.ext_getElem hl
  intro i h1 h2
  have := h i h1
  rwa [nth_eq h1, nth_eq h2] at this
theorem differ_at {a b : List α} {k : Nat} (h : ¬ nth a k = nth b k) : a ≠ b := fun e => h (by rw [e])
end
def eqB (a b : List ByteArray) : Bool := decide (a = b)
theorem eqB_true {a b : List ByteArray} (h : a = b) : eqB a b = true := by simp [eqB, h]
theorem eqB_false {a b : List ByteArray} (h : a ≠ b) : eqB a b = false := by simp [eqB, h]
def marks {α : Type} (f : Int → α) (k : Int) : Nat → List α
  | 0 => []
  | n + 1 => marks f k n ++ [f (k + n)]
section
variable {α : Type} (f : Int → α)
def marked {α : Type} (f : Int → α) (k : Int) (l : List α) (j : Nat) : List α := marks f k j ++ l.drop j
end
section
variable {α : Type} [Inhabited α] {enc : α → Value}
end
theorem below_drewN {B : Nat} {a w : World} (h : Below B a w) (n : Nat) : Below B a (w.drewN n) := ⟨h.os, h.tape, h.output, h.size, h.block⟩
theorem ret_bool {a b : Bool} (h : a = b) : Ending.returned (.bool a) = .returned (.bool b) := by rw [h]
theorem ret_int {k : IntKind} {a b : Int} (h : a = b) : Ending.returned (.int k a) = .returned (.int k b) := by rw [h]
theorem toList_inj {a b : ByteArray} (h : a.toList = b.toList) : a = b := by
  rw [ByteArray.toList_eq, ByteArray.toList_eq] at h
  exact ByteArray.ext (Array.toList_inj.1 h)
theorem tl_eq {a b : ByteArray} (h : a = b) : (!(a.toList == b.toList)) = false := by subst h; simp
theorem tl_ne {a b : ByteArray} (h : ¬ a = b) : (!(a.toList == b.toList)) = true := by
  have : a.toList ≠ b.toList := fun e => h (toList_inj e)
  simpa using this
theorem oneStr (x : ByteArray) : (Value.string x).oneCell' = true := rfl
theorem elemSTR : Elem Try.prog 9 (.string ByteArray.empty) 16 := by unfold Elem; kernel_rfl
theorem sameTexts_len (x y : Option Addr) (n m cx cy : Nat) (w : World) (h : (((n : Nat) : Int) != ((m : Nat) : Int)) = true) :
    Calls Try.prog 50 #[.slice x n cx, .slice y m cy] w fun e w' => e = .returned (.bool false) ∧ w = w' := by
  go_enter Try.func50, Try.ntmps50
  go_wp2
  go_ret
  exact ⟨rfl, rfl⟩
set_option maxHeartbeats 1000000 in
theorem sameTexts (v u : Value) (l m : List ByteArray) (w : World) (h : Holds Value.string w v l) (g : Holds Value.string w u m) (hl : l.length ≤ 140737488351232) (hm : m.length ≤ 140737488351232) :
    Calls Try.prog 50 #[v, u] w fun e w' => e = .returned (.bool (eqB l m)) ∧ Below w.heap.size w w' := by
  obtain ⟨x, cx, rfl, hcx, hh⟩ := h.shape
  obtain ⟨y, cy, rfl, hcy, hg⟩ := g.shape
  by_cases he : l.length = m.length
  · obtain ⟨n, hn⟩ : ∃ n, n = l.length := ⟨_, rfl⟩
    rw [← he] at hg hm hcy ⊢
    rw [← hn] at hcx hh hl hg hm hcy ⊢
    have HE := Lib.hid he
    have HN := Lib.hid hn
    have HH := Lib.hid hh
    have HG := Lib.hid hg
    have htest : (((n : Nat) : Int) != ((n : Nat) : Int)) = false := by simp
    clear hn h hh g hg he
    go_enter Try.func50, Try.ntmps50
    go_wp2
    go_loopw [5] (fun i wr => ∃ k nq : Nat, k ≤ n ∧ i = .int .i64 k ∧ Hid (agree l m k) ∧ wr = w.drewN nq) (fun i _ => n - (intOf i).toNat)
    case atStart => exact ⟨0, 0, Nat.zero_le _, rfl, Lib.hid (agree_zero _ _), rfl⟩
    case round =>
      obtain ⟨k, nq, hk, rfl, ha, rfl⟩ := hrel
      by_cases hlt : k < n
      · have hlen := HN.out
        have hlen2 := HE.out
        obtain ⟨b, off, rfl, hc⟩ := HH.out.at (j := k) (by omega)
        obtain ⟨b', off', rfl, hc'⟩ := HG.out.at (j := k) (by omega)
        clear hlen hlen2
        by_cases hd : nth l k = nth m k
        · have hd2 := tl_eq hd
          have HD := Lib.hid hd; clear hd
          go_wp2_with fail
          go_quiet (fail)
          go_wp2_with fail
          go_roundw
          case rel => exact ⟨k + 1, _, by omega, by go_num, Lib.hid (agree_succ ha.out HD.out), rfl⟩
          case measure => simp [intOf]; omega
        · have hd2 := tl_ne hd
          have HD := Lib.hid (eqB_false (differ_at hd)); clear hd
          go_wp2_with fail
          go_quiet (fail)
          go_wp2_with fail
          go_ret
          exact ⟨ret_bool HD.out.symm, below_drewN (below_drewN (Below.refl _ _) _) _⟩
      · obtain rfl : k = n := by omega
        have HD := Lib.hid (eqB_true (agree_all HE.out (HN.out ▸ ha.out)))
        clear hlt
        go_wp2
        go_ret
        exact ⟨ret_bool HD.out.symm, below_drewN (Below.refl _ _) _⟩
  · have htest : (((l.length : Nat) : Int) != ((m.length : Nat) : Int)) = true := by
      rw [bne_iff_ne]; omega
    rw [eqB_false (fun e => he (by rw [e]))]
    exact (sameTexts_len x y _ _ cx cy w htest).mono fun e w' ⟨h1, h2⟩ => ⟨h1, by subst h2; exact Below.refl _ _⟩
def str (l : List UInt8) : ByteArray := ⟨l.toArray⟩
def digs (u : Nat) : List UInt8 := if u = 0 then [] else digs (u / 10) ++ [UInt8.ofNat (48 + u % 10)]
decreasing_by omega
def markT (k : Int) : ByteArray := if k ≤ 0 then str [109, 48] else str (109 :: digs k.toNat)
end Go.Proofs.Ytdaahcaafdleaaa.Row
/- Results that lie in a variable of the call's own: a struct is read back cell by cell. For any program. -/
namespace Go.Proofs.Ytdaahcaafdleaaa.Ret
variable {P : Program}
def AggOf (P : Program) (ty : TypeId) (n : Nat) : Prop := (match P.underlying ty with | some (.struct _) => true | some (.array _ _) => true | _ => false) = true ∧ (P.info? ty).map (·.size) = some n
theorem run_loadVar_cells (w : World) (b : Nat) (ty : TypeId) (cs : List Value) (hc : ∀ j v, cs[j]? = some v → w.cell? ⟨b, j, none⟩ = some v) (ha : AggOf P ty cs.length) :
    (loadVar ty ⟨b, 0, none⟩).run P w = .ok (.agg cs.toArray) w := by
  obtain ⟨hd, hi⟩ := ha
  have hl : (loadCells ⟨b, 0, none⟩ cs.length).run P w = .ok cs.toArray w :=
    run_loadCells_list (P := P) w ⟨b, 0, none⟩ cs (fun j v hv => by
      have hadd : (⟨b, 0, none⟩ : Addr).add j = ⟨b, j, none⟩ := by unfold Addr.add; split <;> simp_all
      rw [hadd]; exact hc j v hv)
  cases hq : P.info? ty with
  | none => simp [hq] at hi
  | some i =>
    have hs : i.size = cs.length := by simpa [hq] using hi
    cases hu : P.underlying ty with
    | none => simp [hu] at hd
    | some d =>
      have hagg : (isAgg ty).run P w = .ok true w := by
        unfold isAgg
        rw [Sem.run_bind, run_underlying hu w]
        cases d <;> simp_all
      simp [loadVar, Sem.run_bind, hagg, sizeOf, typeInfo, hq, hs, hl]
theorem results_c {fn : Func} {p : Tmp} {ty : TypeId} (h : fn.results = #[.cell p ty]) (tmps : Array Value) (w : World) (b : Nat) (cs : List Value) (hp : tmps.getD p undef = .pointer (some ⟨b, 0, none⟩))
    (ha : AggOf P ty cs.length) (hc : ∀ j v, cs[j]? = some v → w.cell? ⟨b, j, none⟩ = some v) : (results fn tmps).run P w = .ok (.agg cs.toArray) w := by
  have hp' : tmps[p]?.getD undef = .pointer (some ⟨b, 0, none⟩) := by simpa using hp
  have hl := run_loadVar_cells (P := P) w b ty cs hc ha
  simp [results, h, hp', asAddr, hl]
theorem results_ct {fn : Func} {p u : Tmp} {ty : TypeId} (h : fn.results = #[.cell p ty, .tmp u]) (tmps : Array Value) (w : World) (b : Nat) (cs : List Value) (hp : tmps.getD p undef = .pointer (some ⟨b, 0, none⟩))
    (ha : AggOf P ty cs.length) (hc : ∀ j v, cs[j]? = some v → w.cell? ⟨b, j, none⟩ = some v) : (results fn tmps).run P w = .ok (.tuple #[.agg cs.toArray, tmps.getD u undef]) w := by
  have hp' : tmps[p]?.getD undef = .pointer (some ⟨b, 0, none⟩) := by simpa using hp
  have hl := run_loadVar_cells (P := P) w b ty cs hc ha
  simp [results, h, hp', asAddr, hl, Result.andThen]
theorem one {w : World} {b : Nat} {u : Value} (h : w.cell? ⟨b, 0, none⟩ = some u) : ∀ j v, [u][j]? = some v → w.cell? ⟨b, j, none⟩ = some v := by
  intro j v hv
  cases j with
  | zero => simp at hv; subst hv; exact h
  | succ j => simp at hv
theorem cell_at {w : World} {u : Value} {t : TypeId} {n : Nat} (hn : n = w.heap.size) : (w.alloc (.cells #[u] t)).cell? ⟨n, 0, none⟩ = some u := by
  rw [World.cell?_alloc_at _ _ _ _ hn]; rfl
theorem set_same {w : World} {a : Addr} {u v : Value} (h : w.cell? a = some u) : (w.setCell a v).cell? a = some v := World.cell?_setCell_same' w a v (by rw [h]; rfl)
theorem grownBy_set (w : World) (a : Addr) (u : Value) : w.grownBy (w.setCell a u) (some a.block) := ⟨rfl, rfl, rfl, by simp [World.setCell], fun i hi hne => Go.RowKit.Below.heap_setCell _ _ _ _ (fun e => hne (by rw [e]))⟩
open Go.RowKit in
theorem cell_lt {w : World} {a : Addr} {u : Value} (h : w.cell? a = some u) : a.block < w.heap.size := World.block_lt_of_cell? w a h
def NC (w : World) (g : Nat) (u : Value) : Prop := w.cell? ⟨g, 0, none⟩ = some u ∧ w.frozen? ⟨g, 0, none⟩ = false
section
open Go.RowKit
variable {w w' : World} {g : Nat} {u : Value}
theorem NC.lt (h : NC w g u) : g < w.heap.size := cell_lt h.1
theorem NC.on (h : NC w g u) (hb : Below w.heap.size w w') : NC w' g u := ⟨by rw [hb.cell h.lt]; exact h.1, by rw [hb.frozen h.lt]; exact h.2⟩
theorem NC.grown (h : NC w g u) {row : Option Nat} (hg : w.grownBy w' row) (hne : some g ≠ row) : NC w' g u := ⟨hg.cell h.1 hne, (World.frozen?_of_block (hg.block g h.lt hne)).trans h.2⟩
theorem NC.new (w : World) (u : Value) (t : TypeId) : NC (w.alloc (.cells #[u] t)) w.heap.size u := ⟨cell_at rfl, World.frozen?_alloc_at _ _ _ _ rfl⟩
theorem NC.new' {w : World} (u : Value) (t : TypeId) {n : Nat} (h : n = w.heap.size) : NC (w.alloc (.cells #[u] t)) n u := by subst h; exact NC.new w u t
theorem NC.alloc (h : NC w g u) (o : Obj) : NC (w.alloc o) g u := ⟨by rw [World.cell?_alloc_past _ _ _ h.lt]; exact h.1, by rw [World.frozen?_alloc_past _ _ _ h.lt]; exact h.2⟩
theorem NC.drew (h : NC w g u) : NC w.drew g u := h
theorem NC.other (h : NC w g u) {a : Addr} (hne : a.block ≠ g) (v : Value) : NC (w.setCell a v) g u := h.grown (grownBy_set w a v) (fun e => hne (by cases e; rfl))
end
def Box (w : World) (g : Nat) (u : Value) (t : TypeId) : Prop := w.heap[g]? = some (.cells #[u] t)
section
open Go.RowKit
variable {w w' : World} {g : Nat} {u : Value} {t : TypeId}
theorem Box.lt (h : Box w g u t) : g < w.heap.size := (Array.getElem?_eq_some_iff.1 h).1
theorem Box.cell (h : Box w g u t) : w.cell? ⟨g, 0, none⟩ = some u := by rw [cell_of_row w g 0 #[u] t _ h]; rfl
theorem Box.on (h : Box w g u t) (hb : Below w.heap.size w w') : Box w' g u t := (hb.block g h.lt).trans h
theorem Box.grown (h : Box w g u t) {row : Option Nat} (hg : w.grownBy w' row) (hne : some g ≠ row) : Box w' g u t := (hg.block g h.lt hne).trans h
theorem Box.new (w : World) (u : Value) (t : TypeId) : Box (w.alloc (.cells #[u] t)) w.heap.size u t := heap_alloc_new w _
theorem Box.frozen (h : Box w g u t) : w.frozen? ⟨g, 0, none⟩ = false := by simp [World.frozen?, show w.heap[g]? = some (.cells #[u] t) from h]
theorem Box.set (h : Box w g u t) (v : Value) : Box (w.setCell ⟨g, 0, none⟩ v) g v t := by
  have h' : w.heap[g]? = some (.cells #[u] t) := h
  unfold Box
  simp [World.setCell, Array.getElem?_modify, h']
theorem Box.new' {w : World} (u : Value) (t : TypeId) {n : Nat} (h : n = w.heap.size) : Box (w.alloc (.cells #[u] t)) n u t := by subst h; exact Box.new w u t
end
end Go.Proofs.Ytdaahcaafdleaaa.Ret
/- Contracts of the helpers by which the laws measure, copy, compare, mark and look at names (a struct of one slice of strings). No conditions but that lengths fit. -/
namespace Go.Proofs.Ytdaahcaafdleaaa.Row
open Go.ChangeShapes Go.WideShapes Go.ChangeAt Go.RowKit Go.Instr
set_option linter.unusedVariables false
set_option maxRecDepth 100000
theorem Own.shape {α : Type} [Inhabited α] {enc : α → Value} {e : TypeId} {B : Nat} {w : World} {v : Value} {l : List α} (h : Own e enc B w v l) : ∃ x cap, v = .slice x l.length cap ∧ l.length ≤ cap ∧ Own e enc B w (.slice x l.length cap) l := by
  rcases h.form with ⟨rfl, rfl⟩ | ⟨g, cap, rfl, h1, h2, h3, h4⟩
  · exact ⟨none, 0, rfl, by simp, h⟩
  · exact ⟨_, cap, rfl, h3, h⟩
theorem Own.shapeN {α : Type} [Inhabited α] {enc : α → Value} {e : TypeId} {B : Nat} {w : World} {v : Value} {l : List α} (h : Own e enc B w v l) : ∃ x n cap, v = .slice x n cap ∧ n = l.length ∧ n ≤ cap ∧ Own e enc B w (.slice x n cap) l := by
  obtain ⟨x, cap, rfl, hc, ho⟩ := h.shape
  exact ⟨x, _, cap, rfl, rfl, hc, ho⟩
theorem Holds.shapeN {α : Type} [Inhabited α] {enc : α → Value} {w : World} {v : Value} {l : List α} (h : Holds enc w v l) : ∃ x n cap, v = .slice x n cap ∧ n = l.length ∧ n ≤ cap ∧ Holds enc w (.slice x n cap) l := by
  obtain ⟨x, cap, rfl, hc, ho⟩ := h.shape
  exact ⟨x, _, cap, rfl, rfl, hc, ho⟩
theorem nb {α : Type} [Inhabited α] {enc : α → Value} {e : TypeId} {B : Nat} {w : World} {v : Value} {l : List α} (h : Own e enc B w v l) {b : Nat} (hb : b < B) : v.ownBlock = none ∨ v.ownBlock ≠ some b := by
  cases hv : v.ownBlock with
  | none => exact Or.inl rfl
  | some g =>
    have := (h.lt g hv).1
    exact Or.inr (fun e => by cases e; omega)
theorem bigLen {l : List ByteArray} {n : Nat} (h : bulk l ≤ n) : l.length ≤ n := Nat.le_trans (bulk_len l) h
set_option maxHeartbeats 1000000 in
theorem sameName (v u : Value) (l m : List ByteArray) (w : World) (h : Holds Value.string w v l) (g : Holds Value.string w u m) (hl : l.length ≤ 140737488351232) (hm : m.length ≤ 140737488351232) :
    Calls Try.prog 14 #[.agg #[v], .agg #[u]] w fun e w' => e = .returned (.bool (eqB l m)) ∧ Below w.heap.size w w' := by
  obtain ⟨x, cx, rfl, hcx, hh⟩ := h.shape
  obtain ⟨y, cy, rfl, hcy, hg⟩ := g.shape
  have HH := Lib.hid hh; have HG := Lib.hid hg
  clear hh h hg g
  go_enter Try.func14, Try.ntmps14
  go_wp2_with fail
  have HB := Lib.hid (((Below.refl w.heap.size w).alloc (Nat.le_refl _) (.cells #[.slice x l.length cx] 27)).alloc (Nat.le_trans (Nat.le_refl _) (by simp)) (.cells #[.slice y m.length cy] 27))
  have HA := Lib.hid (HH.out.on HB.out); have HC := Lib.hid (HG.out.on HB.out)
  refine (sameTexts _ _ l m _ HA.out HC.out hl hm).mono ?_
  rintro e w' ⟨rfl, hb⟩
  have HB2 := Lib.hid (HB.out.trans (hb.mono (by simp; omega))); clear hb
  go_wp2
  go_ret
  exact ⟨rfl, HB2.out⟩
end Go.Proofs.Ytdaahcaafdleaaa.Row
