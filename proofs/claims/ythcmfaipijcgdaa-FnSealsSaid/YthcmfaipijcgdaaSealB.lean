/- Contracts of chapter 3's BytesToInts, DeriveSecret, Encrypt and Decrypt, the reference model's and the program's: what they give lies in memory of the call's own; what was in memory stays as it was. No conditions but that lengths fit and that the elements are bytes. -/
import Derived.Test.YthcmfaipijcgdaaSeal
import Derived.Laws.BytesArg
import Derived.Deep.RegionLawGrows
namespace Go.Proofs.Ythcmfaipijcgdaa.Sl
open Go.ChangeShapes Go.WideShapes Go.ChangeAt Go.RowKit Go.Instr
open Seal (digest mac b2i derive dstep chg encF decF enc dec)
set_option linter.unusedVariables false

/-- append to a slice of the call's own, as a step of a statement that draws its order. -/
theorem step_app {P : Program} {ops : Array Oper} {o : Oper} {a : Act} {w : World} {K : Act → World → Prop} {Q : Exit → Act → World → Prop} {E : Prop} {k : IntKind} {e t : TypeId} {bytes : Nat} {z : Value}
    (hg : o.guard = none) (s x : Operand) (hop : o.op = Op.call { callee := Callee.builtin Builtin.append, args := #[s, x], argTypes := #[t, t] }) (ht : P.underlying t = some (.slice e)) (hi : Elem P e z bytes) (hz : z.cells.size = 1)
    {B : Nat} {v : Value} {ad : Addr} {n c : Nat} {l m : List Int} (hs : a.eval s = v) (hx : a.eval x = .slice (some ad) n c) (hown : Own e k B w v l) (hsrc : Holds k w (.slice (some ad) n c) m) (hlen : (l.length + m.length) * 8 ≤ 140737488355328) (hby : bytes ≤ 8) (hB : B ≤ w.heap.size)
    (hK : ∀ v' w', Own e k B w' v' (l ++ m) → w.grownBy w' v.ownBlock → K (a.put o.dst v') w') :
    if Region.wanted o (yielded ops a.tmps) = true then Oper.wp P o a w K Q else E := by
  have hw : Region.wanted o (yielded ops a.tmps) = true := by simp [Region.wanted, hg]
  rw [if_pos hw]
  obtain ⟨i, h1, h2, h3, h4⟩ := info_parts hi
  have hbytes : (l.length + m.length) * bytes ≤ 140737488355328 := Nat.le_trans (Nat.mul_le_mul_left _ hby) hlen
  have h63 : l.length + m.length ≤ maxLen := by unfold maxLen; omega
  obtain rfl := hsrc.lenEq
  obtain ⟨v', w', hrun, r1, r2, _⟩ := run_append_own (P := P) w B t o.type e i z 1 bytes ht h1 h2 h3 h4 hz (by decide) v l.length (l.map (Value.int k)) hown ad m.length c (m.map (Value.int k)) (by simp) hsrc.cells (oneCell k m) h63 hbytes hB
  unfold Oper.wp
  simp [execOp, hop, resolve, invoke, builtin, hs, hx, hrun, Result.andThen]
  refine hK v' w' ?_ r2
  unfold Own
  rw [List.length_append, List.map_append]; exact r1

set_option maxHeartbeats 1000000 in
theorem specBytesToInts (v : Value) (l : List Int) (w : World) (h : Holds .u8 w v l) (hB : Byt l) (hl : l.length ≤ 8000000) :
    Calls Try.prog 34 #[v] w (GivesI w (b2i l)) := by
  obtain ⟨x, cap, rfl, hcap, hh⟩ := h.shape
  obtain ⟨n, hn⟩ : ∃ n, n = l.length := ⟨_, rfl⟩
  rw [← hn] at hcap hh hl ⊢
  have HN := Lib.hid hn; have HH := Lib.hid hh; have HBY := Lib.hid hB
  have H0 := Lib.hid (own_one .i64 3 w n)
  have B0 := Lib.hid ((Below.refl w.heap.size w).alloc (Nat.le_refl _) (.cells #[.int .i64 n] 3))
  clear hn h hh hB
  go_enter Try.func34, Try.ntmps34
  go_wp2_with fail
  go_loopw [3, 4] (fun rv iv wr => ∃ k : Nat, k ≤ n ∧ iv = .int .i64 k ∧ Hid (Own 3 .i64 w.heap.size wr rv ((n : Int) :: l.take k)) ∧ Hid (Below w.heap.size w wr)) (fun _ iv _ => n - (intOf iv).toNat)
  case atStart => exact ⟨0, Nat.zero_le _, rfl, H0, B0⟩
  case round =>
    obtain ⟨k, hk, rfl, ho, hb⟩ := hrel
    by_cases hlt : k < n
    · have hlen := HN.out
      obtain ⟨b, off, rfl, hc⟩ := (HH.out.on hb.out).at (j := k) (by omega)
      obtain ⟨y0, y1⟩ := HBY.out.at (j := k) (by omega)
      have HS := Lib.hid (Seal.b2i_step (l := l) (k := k) (by omega))
      rw [← hlen] at HS
      clear hlen
      go_wp2_with (at_builtin; refine wpList_app (k := .i64) (B := w.heap.size) (l := (n : Int) :: l.take k) (m := [nth l k]) rfl _ _ rfl Try.underlying24 elemINT rfl rfl rfl (ho.out.on ((Below.refl _ _).alloc (Nat.le_refl _) _)) (holds_one .i64 _ _ _) ?_ (by decide) ?_ ?_)
      · rw [List.length_cons, List.length_take, List.length_singleton]; omega
      · have := hb.out.size; simp; omega
      intro v2 w2 ho2 hg
      have HO2 := Lib.hid ho2; have HB2 := Lib.hid ((hb.out.alloc hb.out.size _).grown hg (by have := hb.out.size; simp; omega) (fun g hh => (ho.out.lt g hh).1))
      clear ho2 hg
      go_wp2_with fail
      go_roundw
      case rel => exact ⟨k + 1, by omega, by go_num, by rw [HS.out]; exact HO2, HB2⟩
      case measure => simp [intOf]; omega
    · obtain rfl : k = n := by omega
      clear hlt
      go_wp2_with fail
      go_ret
      refine ⟨_, rfl, ?_, hb.out⟩
      have := ho.out
      rw [HN.out, List.take_length] at this
      exact this

set_option maxHeartbeats 1000000 in
theorem implBytesToInts (v : Value) (l : List Int) (w : World) (h : Holds .u8 w v l) (hB : Byt l) (hl : l.length ≤ 8000000) :
    Calls Try.prog 33 #[v] w (GivesI w (b2i l)) := by
  obtain ⟨x, cap, rfl, hcap, hh⟩ := h.shape
  obtain ⟨i0, hi, hz0, hz1, hz2⟩ := info_parts elemINT
  obtain ⟨n, hn⟩ : ∃ n, n = l.length := ⟨_, rfl⟩
  rw [← hn] at hcap hh hl ⊢
  have HN := Lib.hid hn; have HH := Lib.hid hh; have HBY := Lib.hid hB
  have HI := Lib.hid hi; have HZ0 := Lib.hid hz0; have HZ1 := Lib.hid hz1; have HZ2 := Lib.hid hz2
  clear hn h hh hB hi hz0 hz1 hz2
  go_enter Try.func33, Try.ntmps33
  go_wp2_with (at_make; refine wpList_make_own _ rfl _ _ 24 rfl w.heap.size 3 i0 (.int .i64 0) 1 Try.underlying24 HI.out HZ0.out HZ1.out _ _ _ (n + 1) rfl rfl ?_ (by rw [HZ2.out]; omega) (by unfold maxLen; omega) (Nat.le_refl _) ?_)
  · rfl
  intro w1 hown hgrow
  have HO1 := Lib.hid (show Own 3 .i64 w.heap.size w1 (.slice (some ⟨w.heap.size, 0, none⟩) 0 (n + 1)) [] from hown)
  have HB1 := Lib.hid ((Below.refl w.heap.size w).grown hgrow (Nat.le_refl _) (fun k hk => by cases hk))
  clear hown hgrow
  go_wp2_with (at_builtin; refine wpList_app (k := .i64) (B := w.heap.size) (l := []) (m := [(n : Int)]) rfl _ _ rfl Try.underlying24 elemINT rfl rfl rfl (HO1.out.on ((Below.refl _ _).alloc (Nat.le_refl _) _)) (holds_one .i64 _ _ _) ?_ (by decide) ?_ ?_)
  · simp
  · have := HB1.out.size; simp; omega
  intro v2 w2 ho2 hg
  have HO2 := Lib.hid ho2; have HB2 := Lib.hid ((HB1.out.alloc HB1.out.size _).grown hg (by have := HB1.out.size; simp; omega) (fun g hh => (HO1.out.lt g hh).1))
  clear ho2 hg
  go_wp2_with fail
  go_loopw [3, 17] (fun rv iv wr => ∃ k : Nat, k ≤ n ∧ iv = .int .i64 k ∧ Hid (Own 3 .i64 w.heap.size wr rv ((n : Int) :: l.take k)) ∧ Hid (Below w.heap.size w wr)) (fun _ iv _ => n - (intOf iv).toNat)
  case atStart => exact ⟨0, Nat.zero_le _, rfl, HO2, HB2⟩
  case round =>
    obtain ⟨k, hk, rfl, ho, hb⟩ := hrel
    by_cases hlt : k < n
    · have hlen := HN.out
      obtain ⟨b, off, rfl, hc⟩ := (HH.out.on hb.out).at (j := k) (by omega)
      obtain ⟨y0, y1⟩ := HBY.out.at (j := k) (by omega)
      have HS := Lib.hid (Seal.b2i_step (l := l) (k := k) (by omega))
      rw [← hlen] at HS
      clear hlen
      go_wp2_with (at_builtin; refine wpList_app (k := .i64) (B := w.heap.size) (l := (n : Int) :: l.take k) (m := [nth l k]) rfl _ _ rfl Try.underlying24 elemINT rfl rfl rfl (ho.out.on ((Below.refl _ _).alloc (Nat.le_refl _) _)) (holds_one .i64 _ _ _) ?_ (by decide) ?_ ?_)
      · rw [List.length_cons, List.length_take, List.length_singleton]; omega
      · have := hb.out.size; simp; omega
      intro v2 w2 ho2 hg
      have HO2 := Lib.hid ho2; have HB2 := Lib.hid ((hb.out.alloc hb.out.size _).grown hg (by have := hb.out.size; simp; omega) (fun g hh => (ho.out.lt g hh).1))
      clear ho2 hg
      go_wp2_with fail
      go_roundw
      case rel => exact ⟨k + 1, by omega, by go_num, by rw [HS.out]; exact HO2, HB2⟩
      case measure => simp [intOf]; omega
    · obtain rfl : k = n := by omega
      clear hlt
      go_wp2_with fail
      go_ret
      refine ⟨_, rfl, ?_, hb.out⟩
      have := ho.out
      rw [HN.out, List.take_length] at this
      exact this

/-- A MAC over one number. -/
def GivesM (w : World) (s i : Int) (e : Ending) (w' : World) : Prop := ∃ m : Int, e = .returned (.int .i64 m) ∧ m = mac s [i] ∧ 0 ≤ m ∧ m < 2147483647 ∧ Below w.heap.size w w'
theorem specMAC1 (s i : Int) (v : Value) (w : World) (h : Holds .i64 w v [i]) : Calls Try.prog 21 #[.int .i64 s, v] w (GivesM w s i) := by
  refine (specComputeMAC s v [i] w h (by simp)).mono ?_
  rintro e w' ⟨rfl, hb⟩
  exact ⟨_, rfl, rfl, (Seal.mac_in _ _).1, (Seal.mac_in _ _).2, hb⟩
theorem implMAC1 (s i : Int) (v : Value) (w : World) (h : Holds .i64 w v [i]) : Calls Try.prog 20 #[.int .i64 s, v] w (GivesM w s i) := by
  refine (implComputeMAC s v [i] w h (by simp)).mono ?_
  rintro e w' ⟨rfl, hb⟩
  exact ⟨_, rfl, rfl, (Seal.mac_in _ _).1, (Seal.mac_in _ _).2, hb⟩

def GivesU (w : World) (n : Int) (e : Ending) (w' : World) : Prop := ∃ m : Int, e = .returned (.int .u8 m) ∧ m = n ∧ 0 ≤ m ∧ m ≤ 255 ∧ Below w.heap.size w w'

set_option maxHeartbeats 1000000 in
theorem shiftAt (s i : Int) (w : World) : Calls Try.prog 62 #[.int .i64 s, .int .i64 i] w (GivesU w (mac s [i] % 256)) := by
  have B0 := Lib.hid ((Below.refl w.heap.size w).alloc (Nat.le_refl _) (.cells #[.int .i64 i] 3))
  go_enter Try.func62, Try.ntmps62
  go_wp2_with fail
  refine (implMAC1 s i _ _ (holds_one .i64 _ _ _)).mono ?_
  rintro e w1 ⟨m, rfl, hm, m0, m1, hb⟩
  have HM := Lib.hid hm; have HB := Lib.hid (B0.out.trans (hb.mono B0.out.size))
  clear hm hb
  go_wp2_with fail
  go_ret
  exact ⟨m % 256, rfl, by rw [HM.out], by omega, by omega, HB.out⟩

set_option maxHeartbeats 1000000 in
theorem encClos (s : Int) (i : Nat) (y : Int) (p : Nat) (w : World) (y0 : 0 ≤ y) (y1 : y ≤ 255) (hc : w.cell? ⟨p, 0, none⟩ = some (.int .i64 s)) :
    Calls Try.prog 61 #[.int .i64 i, .int .u8 y, .pointer (some ⟨p, 0, none⟩)] w (GivesU w (encF s i y)) := by
  go_enter Try.func61, Try.ntmps61
  go_wp2_with fail
  refine (shiftAt s i _).mono ?_
  rintro e w1 ⟨m, rfl, hm, m0, m1, hb⟩
  have HM := Lib.hid hm; have HB := Lib.hid hb
  clear hm hb
  go_wp2_with fail
  go_ret
  exact ⟨(y + m) % 256, rfl, by have := HM.out; unfold Seal.encF; omega, by omega, by omega, HB.out⟩

set_option maxHeartbeats 1000000 in
theorem encChange (s : Int) (v : Value) (l : List Int) (p : Nat) (w : World) (h : Holds .u8 w v l) (hB : Byt l) (hl : l.length ≤ 8000000) (hc : w.cell? ⟨p, 0, none⟩ = some (.int .i64 s)) :
    Calls Try.prog 60 #[v, .func (.func 61) #[] #[.pointer (some ⟨p, 0, none⟩)]] w (GivesB w (enc s l)) := by
  obtain ⟨x, cap, rfl, hcap, hh⟩ := h.shape
  obtain ⟨i0, hi, hz0, hz1, hz2⟩ := info_parts elemBYTE
  obtain ⟨n, hn⟩ : ∃ n, n = l.length := ⟨_, rfl⟩
  rw [← hn] at hcap hh hl ⊢
  have HN := Lib.hid hn; have HH := Lib.hid hh; have HBY := Lib.hid hB; have HC := Lib.hid hc
  have HI := Lib.hid hi; have HZ0 := Lib.hid hz0; have HZ1 := Lib.hid hz1; have HZ2 := Lib.hid hz2
  clear hn h hh hB hi hz0 hz1 hz2 hc
  go_enter Try.func60, Try.ntmps60
  go_wp2_with (at_make; refine wpList_make_own _ rfl _ _ 22 rfl w.heap.size 5 i0 (.int .u8 0) 1 Try.underlying22 HI.out HZ0.out HZ1.out _ _ _ n rfl rfl ?_ (by rw [HZ2.out]; omega) (by unfold maxLen; omega) (Nat.le_refl _) ?_)
  · rfl
  intro w1 hown hgrow
  have HO1 := Lib.hid (show Own 5 .u8 w.heap.size w1 (.slice (some ⟨w.heap.size, 0, none⟩) 0 n) [] from hown)
  have HB1 := Lib.hid ((Below.refl w.heap.size w).grown hgrow (Nat.le_refl _) (fun k hk => by cases hk))
  clear hown hgrow
  go_wp2_with fail
  go_loopw [5, 13] (fun rv iv wr => ∃ k : Nat, k ≤ n ∧ iv = .int .i64 k ∧ Hid (Own 5 .u8 w.heap.size wr rv (chg (encF s) (l.take k))) ∧ Hid (Below w.heap.size w wr)) (fun _ iv _ => n - (intOf iv).toNat)
  case atStart => exact ⟨0, Nat.zero_le _, rfl, HO1, HB1⟩
  case round =>
    obtain ⟨k, hk, rfl, ho, hb⟩ := hrel
    by_cases hlt : k < n
    · have hlen := HN.out
      obtain ⟨b, off, rfl, hc⟩ := (HH.out.on hb.out).at (j := k) (by omega)
      obtain ⟨y0, y1⟩ := HBY.out.at (j := k) (by omega)
      have HS := Lib.hid (Seal.chg_step (encF s) (l := l) (k := k) (by omega))
      have HTL := Lib.hid (Seal.chg_take_length (encF s) l k (by omega))
      clear hlen
      have hcp : wr.cell? ⟨p, 0, none⟩ = some (.int .i64 s) := by rw [hb.out.cell (cell_lt HC.out)]; exact HC.out
      have HCL := Lib.hid (encClos s k (nth l k) p wr y0 y1 hcp)
      clear hcp
      go_wp2_with fail
      refine HCL.out.mono ?_
      rintro e w2 ⟨m, rfl, hm, m0, m1, hb2⟩
      have HM := Lib.hid hm; have HOC := Lib.hid (ho.out.on hb2); have HBC := Lib.hid (hb.out.trans (hb2.mono hb.out.size))
      clear hm hb2
      go_wp2_with (at_builtin; refine wpList_app (k := .u8) (B := w.heap.size) (l := chg (encF s) (l.take k)) (m := [m]) rfl _ _ rfl Try.underlying22 elemBYTE rfl rfl rfl (HOC.out.on ((Below.refl _ _).alloc (Nat.le_refl _) _)) (holds_one .u8 _ _ _) ?_ (by decide) ?_ ?_)
      · rw [HTL.out, List.length_singleton]; omega
      · have := HBC.out.size; simp; omega
      intro v3 w3 ho3 hg
      have HO3 := Lib.hid ho3; have HB3 := Lib.hid ((HBC.out.alloc HBC.out.size _).grown hg (by have := HBC.out.size; simp; omega) (fun g hh => (HOC.out.lt g hh).1))
      clear ho3 hg
      go_wp2_with fail
      go_roundw
      case rel => exact ⟨k + 1, by omega, by go_num, by rw [HS.out, ← HM.out]; exact HO3, HB3⟩
      case measure => simp [intOf]; omega
    · obtain rfl : k = n := by omega
      clear hlt
      go_wp2_with fail
      go_ret
      refine ⟨_, rfl, ?_, hb.out⟩
      have := ho.out
      rw [HN.out, List.take_length] at this
      exact this

set_option maxHeartbeats 1000000 in
theorem implEncrypt (s : Int) (v : Value) (l : List Int) (w : World) (h : Holds .u8 w v l) (hB : Byt l) (hl : l.length ≤ 8000000) :
    Calls Try.prog 27 #[.int .i64 s, v] w (GivesB w (enc s l)) := by
  have hb0 := (Below.refl w.heap.size w).alloc (Nat.le_refl _) (.cells #[.int .i64 s] 3)
  have HC := Lib.hid (encChange s v l w.heap.size _ (h.on hb0) hB hl (Num.new1 w (.int .i64 s) 3))
  have HB0 := Lib.hid hb0
  obtain ⟨x, cap, rfl, hcap, hh⟩ := h.shape
  clear h hh hB hb0
  have hmf : ∀ (fn : Fn) (first cap : Array Value) (w : World), (Instr.makeFunc fn first cap).run Try.prog w = .ok (.func fn first cap) w := fun _ _ _ _ => rfl
  go_enter Try.func27, Try.ntmps27
  go_wp2_with fail
  refine HC.out.mono ?_
  rintro e w1 ⟨v1, rfl, ho, hb⟩
  have HO := Lib.hid ho; have HB := Lib.hid (HB0.out.trans (hb.mono HB0.out.size))
  clear ho hb
  go_wp2_with fail
  go_ret
  exact ⟨_, rfl, HO.out.mono HB0.out.size, HB.out⟩

set_option maxHeartbeats 1000000 in
theorem decClos (s : Int) (i : Nat) (y : Int) (p : Nat) (w : World) (y0 : 0 ≤ y) (y1 : y ≤ 255) (hc : w.cell? ⟨p, 0, none⟩ = some (.int .i64 s)) :
    Calls Try.prog 63 #[.int .i64 i, .int .u8 y, .pointer (some ⟨p, 0, none⟩)] w (GivesU w (decF s i y)) := by
  go_enter Try.func63, Try.ntmps63
  go_wp2_with fail
  refine (shiftAt s i _).mono ?_
  rintro e w1 ⟨m, rfl, hm, m0, m1, hb⟩
  have HM := Lib.hid hm; have HB := Lib.hid hb
  clear hm hb
  go_wp2_with fail
  go_ret
  exact ⟨(y - m) % 256, rfl, by have := HM.out; unfold Seal.decF; omega, by omega, by omega, HB.out⟩

set_option maxHeartbeats 1000000 in
theorem decChange (s : Int) (v : Value) (l : List Int) (p : Nat) (w : World) (h : Holds .u8 w v l) (hB : Byt l) (hl : l.length ≤ 8000000) (hc : w.cell? ⟨p, 0, none⟩ = some (.int .i64 s)) :
    Calls Try.prog 60 #[v, .func (.func 63) #[] #[.pointer (some ⟨p, 0, none⟩)]] w (GivesB w (dec s l)) := by
  obtain ⟨x, cap, rfl, hcap, hh⟩ := h.shape
  obtain ⟨i0, hi, hz0, hz1, hz2⟩ := info_parts elemBYTE
  obtain ⟨n, hn⟩ : ∃ n, n = l.length := ⟨_, rfl⟩
  rw [← hn] at hcap hh hl ⊢
  have HN := Lib.hid hn; have HH := Lib.hid hh; have HBY := Lib.hid hB; have HC := Lib.hid hc
  have HI := Lib.hid hi; have HZ0 := Lib.hid hz0; have HZ1 := Lib.hid hz1; have HZ2 := Lib.hid hz2
  clear hn h hh hB hi hz0 hz1 hz2 hc
  go_enter Try.func60, Try.ntmps60
  go_wp2_with (at_make; refine wpList_make_own _ rfl _ _ 22 rfl w.heap.size 5 i0 (.int .u8 0) 1 Try.underlying22 HI.out HZ0.out HZ1.out _ _ _ n rfl rfl ?_ (by rw [HZ2.out]; omega) (by unfold maxLen; omega) (Nat.le_refl _) ?_)
  · rfl
  intro w1 hown hgrow
  have HO1 := Lib.hid (show Own 5 .u8 w.heap.size w1 (.slice (some ⟨w.heap.size, 0, none⟩) 0 n) [] from hown)
  have HB1 := Lib.hid ((Below.refl w.heap.size w).grown hgrow (Nat.le_refl _) (fun k hk => by cases hk))
  clear hown hgrow
  go_wp2_with fail
  go_loopw [5, 13] (fun rv iv wr => ∃ k : Nat, k ≤ n ∧ iv = .int .i64 k ∧ Hid (Own 5 .u8 w.heap.size wr rv (chg (decF s) (l.take k))) ∧ Hid (Below w.heap.size w wr)) (fun _ iv _ => n - (intOf iv).toNat)
  case atStart => exact ⟨0, Nat.zero_le _, rfl, HO1, HB1⟩
  case round =>
    obtain ⟨k, hk, rfl, ho, hb⟩ := hrel
    by_cases hlt : k < n
    · have hlen := HN.out
      obtain ⟨b, off, rfl, hc⟩ := (HH.out.on hb.out).at (j := k) (by omega)
      obtain ⟨y0, y1⟩ := HBY.out.at (j := k) (by omega)
      have HS := Lib.hid (Seal.chg_step (decF s) (l := l) (k := k) (by omega))
      have HTL := Lib.hid (Seal.chg_take_length (decF s) l k (by omega))
      clear hlen
      have hcp : wr.cell? ⟨p, 0, none⟩ = some (.int .i64 s) := by rw [hb.out.cell (cell_lt HC.out)]; exact HC.out
      have HCL := Lib.hid (decClos s k (nth l k) p wr y0 y1 hcp)
      clear hcp
      go_wp2_with fail
      refine HCL.out.mono ?_
      rintro e w2 ⟨m, rfl, hm, m0, m1, hb2⟩
      have HM := Lib.hid hm; have HOC := Lib.hid (ho.out.on hb2); have HBC := Lib.hid (hb.out.trans (hb2.mono hb.out.size))
      clear hm hb2
      go_wp2_with (at_builtin; refine wpList_app (k := .u8) (B := w.heap.size) (l := chg (decF s) (l.take k)) (m := [m]) rfl _ _ rfl Try.underlying22 elemBYTE rfl rfl rfl (HOC.out.on ((Below.refl _ _).alloc (Nat.le_refl _) _)) (holds_one .u8 _ _ _) ?_ (by decide) ?_ ?_)
      · rw [HTL.out, List.length_singleton]; omega
      · have := HBC.out.size; simp; omega
      intro v3 w3 ho3 hg
      have HO3 := Lib.hid ho3; have HB3 := Lib.hid ((HBC.out.alloc HBC.out.size _).grown hg (by have := HBC.out.size; simp; omega) (fun g hh => (HOC.out.lt g hh).1))
      clear ho3 hg
      go_wp2_with fail
      go_roundw
      case rel => exact ⟨k + 1, by omega, by go_num, by rw [HS.out, ← HM.out]; exact HO3, HB3⟩
      case measure => simp [intOf]; omega
    · obtain rfl : k = n := by omega
      clear hlt
      go_wp2_with fail
      go_ret
      refine ⟨_, rfl, ?_, hb.out⟩
      have := ho.out
      rw [HN.out, List.take_length] at this
      exact this

set_option maxHeartbeats 1000000 in
theorem implDecrypt (s : Int) (v : Value) (l : List Int) (w : World) (h : Holds .u8 w v l) (hB : Byt l) (hl : l.length ≤ 8000000) :
    Calls Try.prog 29 #[.int .i64 s, v] w (GivesB w (dec s l)) := by
  have hb0 := (Below.refl w.heap.size w).alloc (Nat.le_refl _) (.cells #[.int .i64 s] 3)
  have HC := Lib.hid (decChange s v l w.heap.size _ (h.on hb0) hB hl (Num.new1 w (.int .i64 s) 3))
  have HB0 := Lib.hid hb0
  obtain ⟨x, cap, rfl, hcap, hh⟩ := h.shape
  clear h hh hB hb0
  have hmf : ∀ (fn : Fn) (first cap : Array Value) (w : World), (Instr.makeFunc fn first cap).run Try.prog w = .ok (.func fn first cap) w := fun _ _ _ _ => rfl
  go_enter Try.func29, Try.ntmps29
  go_wp2_with fail
  refine HC.out.mono ?_
  rintro e w1 ⟨v1, rfl, ho, hb⟩
  have HO := Lib.hid ho; have HB := Lib.hid (HB0.out.trans (hb.mono HB0.out.size))
  clear ho hb
  go_wp2_with fail
  go_ret
  exact ⟨_, rfl, HO.out.mono HB0.out.size, HB.out⟩

end Go.Proofs.Ythcmfaipijcgdaa.Sl
