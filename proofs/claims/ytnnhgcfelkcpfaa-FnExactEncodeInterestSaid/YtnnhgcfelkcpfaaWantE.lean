/- Contract of the model's EncodeInterest. No conditions but that lengths fit. -/
import Derived.Test.YtnnhgcfelkcpfaaWantV
import Derived.Test.YtnnhgcfelkcpfaaReadB
import Derived.Deep.RegionHeld3
import Derived.Deep.RegionLaw
namespace Go.Proofs.Ytnnhgcfelkcpfaa.Sl
open Go.ChangeShapes Go.WideShapes Go.ChangeAt Go.RowKit Go.Instr
set_option linter.unusedVariables false
/-- append to a slice of numbers of the call's own, as a step of a statement that draws its order. -/
theorem step_app2 {P : Program} {ops : Array Oper} {o : Oper} {a : Act} {w : World} {K : Act → World → Prop} {Q : Exit → Act → World → Prop} {E : Prop} {k : IntKind} {e t : TypeId} {bytes : Nat} {z : Value}
    (hg : o.guard = none) (s x : Operand) (hop : o.op = Op.call { callee := Callee.builtin Builtin.append, args := #[s, x], argTypes := #[t, t] }) (ht : P.underlying t = some (.slice e)) (hi : Elem P e z bytes) (hz : z.cells.size = 1)
    {B : Nat} {v : Value} {ad : Addr} {n c : Nat} {l m : List Int} (hs : a.eval s = v) (hx : a.eval x = .slice (some ad) n c) (hown : Own e k B w v l) (hsrc : Holds k w (.slice (some ad) n c) m) (hlen : (l.length + m.length) * 8 ≤ 140737488355328) (hby : bytes ≤ 8) (hB : B ≤ w.heap.size)
    (hK : ∀ v' w', Own e k B w' v' (l ++ m) → w.grownBy w' v.ownBlock → K (a.put o.dst v') w') :
    if Region.wanted o (yielded ops a.tmps) = true then Oper.wp P o a w K Q else E := by
  have hw : Region.wanted o (yielded ops a.tmps) = true := by simp [Region.wanted, hg]
  rw [if_pos hw]
  obtain ⟨i, h1, h2, h3, h4⟩ := info_parts hi
  have hbytes : (l.length + m.length) * bytes ≤ 140737488355328 := Nat.le_trans (Nat.mul_le_mul_left _ hby) hlen
  have h63 : l.length + m.length ≤ maxLen := by unfold maxLen; omega
  obtain rfl := hsrc.lenEq
  obtain ⟨v', w', hrun, r1, r2, _⟩ := run_append_own (P := P) w B t o.type e i z 1 bytes ht h1 h2 h3 h4 hz (by decide) v l.length (l.map (Value.int k)) hown ad m.length c (m.map (Value.int k)) (by simp) hsrc.cells (oneCell k m) h63 hbytes hB
  unfold Oper.wp
  simp [execOp, hop, resolve, invoke, builtin, hs, hx, hrun, Result.andThen]
  refine hK v' w' ?_ r2
  unfold Own
  rw [List.length_append, List.map_append]; exact r1
end Go.Proofs.Ytnnhgcfelkcpfaa.Sl
namespace Go.Proofs.Ytnnhgcfelkcpfaa.Row
open Go.ChangeShapes Go.WideShapes Go.ChangeAt Go.RowKit Go.Instr
set_option linter.unusedVariables false
set_option maxRecDepth 100000

def encW (x : Wt) : List Int := if validW x = true then appName [] x.1 ++ Sl.encs [x.2.1, x.2.2.1, x.2.2.2] else []
theorem holdsI3 (w : World) (a b c : Int) : Sl.Holds .i64 (w.alloc (.cells #[.int .i64 a, .int .i64 b, .int .i64 c] 3)) (.slice (some ⟨w.heap.size, 0, none⟩) 3 3) [a, b, c] := by
  refine ⟨_, 3, rfl, by simp, Or.inr ⟨_, _, rfl, fun j hj => ?_⟩⟩
  have hj : j < 3 := by simpa using hj
  rw [World.cell?_alloc_at _ _ _ _ rfl]
  rcases j with _ | _ | _ | j
  · rfl
  · rfl
  · rfl
  · omega
theorem some6 {B : Nat} {w : World} {v : Value} {l : List Int} (h : Sl.Own 5 .u8 B w v l) (hl : l ≠ []) : ∃ g c, v = .slice (some ⟨g, 0, none⟩) l.length c ∧ B ≤ g := by
  rcases h.form with ⟨_, h0⟩ | ⟨g, c, e, h1, _⟩
  · exact absurd h0 hl
  · exact ⟨g, c, e, h1⟩
theorem keepW {w w1 W : World} {v : Value} {a b c : Int} {t : TypeId} (h : Ret.Blk w1 w.heap.size (wc v a b c) t) (hb : Below w1.heap.size w1 W) : W.cell? ⟨w.heap.size, 0, none⟩ = some v ∧ W.cell? ⟨w.heap.size, 1, none⟩ = some (.int .i64 a) ∧ W.cell? ⟨w.heap.size, 2, none⟩ = some (.int .i64 b) ∧ W.cell? ⟨w.heap.size, 3, none⟩ = some (.int .i64 c) :=
  ⟨(h.on hb).cell 0, (h.on hb).cell 1, (h.on hb).cell 2, (h.on hb).cell 3⟩
theorem appName_len (l : List ByteArray) : (appName [] l).length ≤ 6 + 6 * bulk l := by
  have h1 := encPs_len l
  have h2 := Var.var_len l.length
  unfold appName encN
  split
  · simp only [List.nil_append, List.length_append]; omega
  · simp
theorem validW_in {x : Wt} (h : validW x = true) : 0 ≤ x.2.1 ∧ x.2.1 ≤ 1000000 := by
  by_cases h3 : 0 ≤ x.2.1 ∧ x.2.1 ≤ 1000000
  · exact h3
  · rw [validW_no3 h3] at h; cases h

set_option maxHeartbeats 8000000 in
theorem specEncodeInterest (v : Value) (x : Wt) (w : World) (h : Holds Value.string w v x.1) (hl : bulk x.1 ≤ 1200000) :
    Calls Try.prog 28 #[.agg (wc v x.2.1 x.2.2.1 x.2.2.2)] w (Sl.GivesB w (encW x)) := by
  obtain ⟨l, a, b, c⟩ := x
  simp only at h hl ⊢
  obtain ⟨y, q, cy, rfl, hq, hcy, hg⟩ := h.shapeN
  have hb0 := (Below.refl w.heap.size w).alloc (Nat.le_refl _) (.cells (wc (.slice y q cy) a b c) 31)
  have HB := Lib.hid hb0
  have HG := Lib.hid (hg.on hb0)
  have HG0 := Lib.hid hg
  have X0 := Lib.hid (Ret.Blk.new w (wc (.slice y q cy) a b c) 31)
  have HBL := Lib.hid hl
  obtain ⟨ok, hok⟩ : ∃ z, validW (l, a, b, c) = z := ⟨_, rfl⟩
  have HOK := Lib.hid hok
  clear h hg hq hb0
  go_enter Try.func28, Try.ntmps28
  go_wp2_with fail
  refine (specValidInterest _ (l, a, b, c) _ HG.out (show bulk l ≤ 9000000 by omega)).mono ?_
  rintro e w1 ⟨rfl, hb⟩
  rw [hok]
  have Y0 := Lib.hid (X0.out.on hb)
  have HBW := Lib.hid (HB.out.trans (hb.mono HB.out.size))
  have HG1 := Lib.hid (HG0.out.on HBW.out)
  clear hb X0 hok HG HG0
  have q0 : w1.cell? ⟨w.heap.size, 0, none⟩ = some (.slice y q cy) := Y0.out.cell 0
  have q1 : w1.cell? ⟨w.heap.size, 1, none⟩ = some (.int .i64 a) := Y0.out.cell 1
  have q2 : w1.cell? ⟨w.heap.size, 2, none⟩ = some (.int .i64 b) := Y0.out.cell 2
  have q3 : w1.cell? ⟨w.heap.size, 3, none⟩ = some (.int .i64 c) := Y0.out.cell 3
  cases ok with
  | false =>
    have HV : Hid (encW (l, a, b, c) = []) := Lib.hid (if_neg (by rw [HOK.out]; simp))
    have HE := Lib.hid (Sl.own_empty .u8 5 w1)
    have HBE := Lib.hid (HBW.out.alloc HBW.out.size (.cells #[] 5))
    go_wp2_with fail
    go_ret
    exact ⟨_, rfl, by rw [HV.out]; exact HE.out.mono HBW.out.size, HBE.out⟩
  | true =>
    have HV : Hid (encW (l, a, b, c) = appName [] l ++ Sl.encs [a, b, c]) := Lib.hid (if_pos HOK.out)
    have hin : 0 ≤ a ∧ a ≤ 1000000 := validW_in HOK.out
    have HEN := Lib.hid (show Sl.encs [a, b, c] ≠ [] from fun e => by
      have h1 : (Sl.encs [a, b, c]).length = 0 := by rw [e]; rfl
      have h2 := Var.enc_pos a.toNat
      have h3 : Sl.encs [a, b, c] = Var.var a ++ (Var.var b ++ Var.var c) := by simp [Sl.encs]
      rw [h3, Var.var_in hin.1 (by omega), List.length_append] at h1
      omega)
    have HLM := Lib.hid (show ((appName [] l).length + (Sl.encs [a, b, c]).length) * 8 ≤ 140737488355328 by
      have h1 := appName_len l
      have h2 := Sl.encs_len [a, b, c]
      have h3 : [a, b, c].length = 3 := rfl
      have h4 := HBL.out
      omega)
    have HBD := Lib.hid (show Below w1.heap.size w1 w1.drew from (Below.refl _ _).drew)
    have HB1 := Lib.hid (show Below w1.heap.size w1 (w1.alloc (.cells #[] 5)).drew from ((Below.refl _ _).alloc (Nat.le_refl _) _).drew)
    have HBI := Lib.hid (show Below w1.heap.size w1 (w1.alloc (.cells #[.int .i64 a, .int .i64 b, .int .i64 c] 3)).drew from ((Below.refl _ _).alloc (Nat.le_refl _) _).drew)
    have HB2 := Lib.hid (show Below w1.heap.size w1 ((w1.alloc (.cells #[] 5)).alloc (.cells #[.int .i64 a, .int .i64 b, .int .i64 c] 3)).drew from (((Below.refl _ _).alloc (Nat.le_refl _) _).alloc (by simp) _).drew)
    have HB3 := Lib.hid (show Below w1.heap.size w1 ((w1.alloc (.cells #[.int .i64 a, .int .i64 b, .int .i64 c] 3)).alloc (.cells #[] 5)).drew from (((Below.refl _ _).alloc (Nat.le_refl _) _).alloc (by simp) _).drew)
    have HN1 := Lib.hid (HG1.out.on HB1.out)
    have HN2 := Lib.hid (HG1.out.on HB2.out)
    have HN3 := Lib.hid (HG1.out.on HB3.out)
    have hi2 := holdsI3 (w1.alloc (.cells #[] 5)) a b c
    rw [World.size_alloc] at hi2
    have HI2 := Lib.hid (show Sl.Holds .i64 ((w1.alloc (.cells #[] 5)).alloc (.cells #[.int .i64 a, .int .i64 b, .int .i64 c] 3)).drew (.slice (some ⟨w1.heap.size + 1, 0, none⟩) 3 3) [a, b, c] from hi2.on (Below.refl _ _).drew)
    have HI3 := Lib.hid (show Sl.Holds .i64 ((w1.alloc (.cells #[.int .i64 a, .int .i64 b, .int .i64 c] 3)).alloc (.cells #[] 5)).drew (.slice (some ⟨w1.heap.size, 0, none⟩) 3 3) [a, b, c] from ((holdsI3 w1 a b c).on ((Below.refl _ _).alloc (Nat.le_refl _) (.cells #[] 5))).on (Below.refl _ _).drew)
    clear hi2 hin
    go_wp2_with fail
    go_region_held3 (fun w' => w'.cell? ⟨w.heap.size, 0, none⟩ = some (.slice y q cy) ∧ w'.cell? ⟨w.heap.size, 1, none⟩ = some (.int .i64 a) ∧ w'.cell? ⟨w.heap.size, 2, none⟩ = some (.int .i64 b) ∧ w'.cell? ⟨w.heap.size, 3, none⟩ = some (.int .i64 c)) (first | with_reducible exact keepW Y0.out HBD.out | with_reducible exact keepW Y0.out HB1.out | with_reducible exact keepW Y0.out HBI.out | with_reducible exact keepW Y0.out HB2.out | with_reducible exact keepW Y0.out HB3.out | with_reducible exact keepW Y0.out HB7.out | with_reducible exact keepW Y0.out HB6.out | with_reducible exact keepW Y0.out HE5.out | with_reducible exact keepW Y0.out HB5.out) (first | (refine Sl.step_app2 (k := .u8) (B := w1.heap.size) (v := v5) (l := appName [] l) (m := Sl.encs [a, b, c]) rfl _ _ (by rfl) Try.underlying35 Sl.elemBYTE rfl (by rfl) (by rfl) ?_ ?_ HLM.out (by decide) ?_ ?_; (with_reducible exact HO6.out); (with_reducible exact HS6.out); (exact HB6.out.size); intro v7 w7 ho7 hg7; have HB7 := Lib.hid (HB6.out.grown hg7 HB6.out.size (fun g e => (HO6.out.lt g e).1)); have HO7 := Lib.hid ho7; clear ho7 hg7) | (go_at_call 56; refine (Sl.specEncodeInts _ [a, b, c] _ ?_ (by simp)).mono ?_; (with_reducible exact HI5.out); rintro e w6 ⟨v6, rfl, ho6, hb6⟩; obtain ⟨g6, c6, rfl, -⟩ := some6 ho6 HEN.out; have HB6 := Lib.hid (HE5.out.trans (hb6.mono HE5.out.size)); have HO6 := Lib.hid (HO5.out.on hb6); have HS6 := Lib.hid ho6.holds; clear ho6 hb6) | (go_at_call 16; refine (specAppendName (.slice _ 0 0) _ [] l _ (Sl.holds_empty _ _ _ _) ?_ (by simp) HBL.out).mono ?_; (with_reducible exact HN1.out); rintro e w5 ⟨v5, rfl, ho5, hb5⟩; have HB5 := Lib.hid (HB1.out.trans (hb5.mono HB1.out.size)); have HO5 := Lib.hid ((ho5.mono HB1.out.size).on ((Below.refl _ _).alloc (Nat.le_refl _) (.cells #[.int .i64 a, .int .i64 b, .int .i64 c] 3))); have HE5 := Lib.hid (HB5.out.alloc HB5.out.size (.cells #[.int .i64 a, .int .i64 b, .int .i64 c] 3)); have HI5 := Lib.hid (holdsI3 w5 a b c); clear ho5 hb5) | (go_at_call 16; refine (specAppendName (.slice _ 0 0) _ [] l _ (Sl.holds_empty _ _ _ _) ?_ (by simp) HBL.out).mono ?_; (with_reducible exact HN2.out); rintro e w5 ⟨v5, rfl, ho5, hb5⟩; have HB5 := Lib.hid (HB2.out.trans (hb5.mono HB2.out.size)); have HO5 := Lib.hid (ho5.mono HB2.out.size); have HE5 := HB5; have HI5 := Lib.hid (HI2.out.on hb5); clear ho5 hb5) | (go_at_call 16; refine (specAppendName (.slice _ 0 0) _ [] l _ (Sl.holds_empty _ _ _ _) ?_ (by simp) HBL.out).mono ?_; (with_reducible exact HN3.out); rintro e w5 ⟨v5, rfl, ho5, hb5⟩; have HB5 := Lib.hid (HB3.out.trans (hb5.mono HB3.out.size)); have HO5 := Lib.hid (ho5.mono HB3.out.size); have HE5 := HB5; have HI5 := Lib.hid (HI3.out.on hb5); clear ho5 hb5))
    all_goals
      go_wp2_with fail
      go_ret
      exact ⟨_, rfl, by rw [HV.out]; exact HO7.out.mono HBW.out.size, HBW.out.trans (HB7.out.mono HBW.out.size)⟩
end Go.Proofs.Ytnnhgcfelkcpfaa.Row
