/- Contracts of AppendBytes, EqualBytes and EncodeInts, the reference model's and the program's. Slices that are returned lie in memory of the call's own. No conditions but that lengths fit and that the elements are bytes. -/
import Derived.Test.YtnnhgcfelkcpfaaDoorReadVI
import Derived.Laws.BytesArg
namespace Go.Proofs.YtnnhgcfelkcpfaaDoor.Sl
open Go.ChangeShapes Go.WideShapes Go.ChangeAt Go.RowKit Go.Instr
set_option linter.unusedVariables false
set_option maxRecDepth 100000

set_option maxHeartbeats 1000000 in
theorem specAppendBytes (v u : Value) (l m : List Int) (w : World) (h : Holds .u8 w v l) (g : Holds .u8 w u m) (hl : l.length ≤ 10000000) (hm : m.length ≤ 10000000) :
    Calls Tryd.prog 60 #[v, u] w (GivesB w (l ++ Var.var m.length ++ m)) := by
  obtain ⟨x, cap, rfl, hcap, hg⟩ := g.shape
  have H := Lib.hid h; have G := Lib.hid hg
  clear h g hg
  go_enter Tryd.func60, Tryd.ntmps60
  go_wp2_with fail
  refine (specAppendVarint _ l m.length _ H.out (by omega)).mono ?_
  rintro e w1 ⟨v1, rfl, ho, hb⟩
  have HO := Lib.hid ho; have HB := Lib.hid hb
  have hv := Var.var_len m.length
  clear ho hb
  go_wp2_with (at_builtin; refine wpList_app (k := .u8) (B := w.heap.size) (l := l ++ Var.var m.length) (m := m) rfl _ _ rfl Tryd.underlying22 elemBYTE rfl rfl rfl HO.out (G.out.on HB.out) ?_ (by decide) ?_ ?_)
  · rw [List.length_append]; omega
  · exact HB.out.size
  intro v2 w2 ho hg
  have hb2 := HB.out.grown hg (by have := HB.out.size; omega) (fun k hk => (HO.out.lt k hk).1)
  have HO2 := Lib.hid ho; have HB2 := Lib.hid hb2
  clear ho hg hb2
  go_wp2_with fail
  go_ret
  exact ⟨_, rfl, by rw [List.append_assoc]; exact HO2.out, HB2.out⟩

set_option maxHeartbeats 1000000 in
theorem implAppendBytes (v u : Value) (l m : List Int) (w : World) (h : Holds .u8 w v l) (g : Holds .u8 w u m) (hl : l.length ≤ 10000000) (hm : m.length ≤ 10000000) :
    Calls Tryd.prog 58 #[v, u] w (GivesB w (l ++ Var.var m.length ++ m)) := by
  obtain ⟨x, cap, rfl, hcap, hg⟩ := g.shape
  have H := Lib.hid h; have G := Lib.hid hg
  clear h g hg
  go_enter Tryd.func58, Tryd.ntmps58
  go_wp2_with fail
  refine (implAppendVarint _ l m.length _ H.out (by omega)).mono ?_
  rintro e w1 ⟨v1, rfl, ho, hb⟩
  have HO := Lib.hid ho; have HB := Lib.hid hb
  have hv := Var.var_len m.length
  clear ho hb
  go_wp2_with (at_builtin; refine wpList_app (k := .u8) (B := w.heap.size) (l := l ++ Var.var m.length) (m := m) rfl _ _ rfl Tryd.underlying22 elemBYTE rfl rfl rfl HO.out (G.out.on HB.out) ?_ (by decide) ?_ ?_)
  · rw [List.length_append]; omega
  · exact HB.out.size
  intro v2 w2 ho hg
  have hb2 := HB.out.grown hg (by have := HB.out.size; omega) (fun k hk => (HO.out.lt k hk).1)
  have HO2 := Lib.hid ho; have HB2 := Lib.hid hb2
  clear ho hg hb2
  go_wp2_with fail
  go_ret
  exact ⟨_, rfl, by rw [List.append_assoc]; exact HO2.out, HB2.out⟩

/-! ### EqualBytes -/
theorem conv_holds {x : Option Addr} {cap : Nat} {l : List Int} {w : World} (h : Holds .u8 w (.slice x l.length cap) l) :
    (convert 22 9 (.slice x l.length cap)).run Tryd.prog w = .ok (.string (strOfNums l)) w := by
  obtain ⟨x', cap', hv, hc, hh⟩ := h
  cases hv
  rcases hh with rfl | ⟨b, off, rfl, hc⟩
  · cases x with
    | none => exact run_convert_bytes_nil w 22 5 Tryd.underlying22 Tryd.underlying5 _ _ 9 Tryd.underlying9
    | some a => exact run_convert_bytes_back w 22 9 5 a cap [] Tryd.underlying22 Tryd.underlying5 Tryd.underlying9 (fun j hj => absurd hj (by simp))
  · exact run_convert_bytes_arg w 22 5 Tryd.underlying22 Tryd.underlying5 b off l.length cap l rfl hc 9 Tryd.underlying9

theorem str_eqB {l m : List Int} (hl : Byt l) (hm : Byt m) : ((strOfNums l).toList == (strOfNums m).toList) = eqB l m := by
  have inj : ∀ (a b : List Int), Byt a → Byt b → (a.map fun n => UInt8.ofNat n.toNat) = (b.map fun n => UInt8.ofNat n.toNat) → a = b := by
    intro a
    induction a with
    | nil => intro b _ _ h; cases b with
      | nil => rfl
      | cons _ _ => simp at h
    | cons x r ih =>
      intro b ha hb h
      cases b with
      | nil => simp at h
      | cons y s =>
        simp only [List.map_cons, List.cons.injEq] at h
        have h1 := ha x (by simp)
        have h2 := hb y (by simp)
        have h3 := congrArg UInt8.toNat h.1
        simp at h3
        have h4 : x = y := by omega
        rw [h4, ih s (fun z hz => ha z (by simp [hz])) (fun z hz => hb z (by simp [hz])) h.2]
  rw [Bool.eq_iff_iff]
  unfold eqB
  rw [beq_iff_eq, decide_eq_true_iff, ByteArray.toList_eq, ByteArray.toList_eq, strOfNums_data, strOfNums_data]
  exact ⟨inj l m hl hm, fun h => by rw [h]⟩

end Go.Proofs.YtnnhgcfelkcpfaaDoor.Sl
