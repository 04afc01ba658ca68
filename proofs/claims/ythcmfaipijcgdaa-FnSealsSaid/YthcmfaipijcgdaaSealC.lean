/- Contracts of chapter 3's Encrypt, Decrypt and DeriveSecret, the reference model's, and the program's DeriveSecret. No conditions but that lengths fit and that the elements are bytes. -/
import Derived.Test.YthcmfaipijcgdaaSealB
import Derived.Deep.RegionHeld3
import Derived.Lib.ConvBytes
namespace Go.Proofs.Ythcmfaipijcgdaa.Sl
open Go.ChangeShapes Go.WideShapes Go.ChangeAt Go.RowKit Go.Instr
open Seal (digest mac b2i derive dstep chg encF decF enc dec)
set_option linter.unusedVariables false

theorem wrap8 {n : Int} (h0 : 0 ≤ n) (h1 : n ≤ 255) : IntKind.u8.wrap n = n := by
  rw [IntKind.wrap_u8]; omega
theorem encEl {y m : Int} (y0 : 0 ≤ y) (y1 : y ≤ 255) (m0 : 0 ≤ m) (m1 : m < 2147483647) : IntKind.u8.wrap ((IntKind.i64.wrap (IntKind.i64.wrap y + m.tmod 256)).tmod 256) = (y + m) % 256 := by
  have h1 : IntKind.i64.wrap y = y := by rw [IntKind.wrap_i64]; omega
  have h2 : m.tmod 256 = m % 256 := Int.tmod_eq_emod_of_nonneg m0
  have h3 : IntKind.i64.wrap (y + m % 256) = y + m % 256 := by rw [IntKind.wrap_i64]; omega
  rw [h1, h2, h3, Int.tmod_eq_emod_of_nonneg (by omega), wrap8 (by omega) (by omega)]; omega
theorem decEl {y m : Int} (y0 : 0 ≤ y) (y1 : y ≤ 255) (m0 : 0 ≤ m) (m1 : m < 2147483647) : IntKind.i64.wrap (IntKind.i64.wrap y - m.tmod 256) % 256 = (y - m) % 256 := by
  have h1 : IntKind.i64.wrap y = y := by rw [IntKind.wrap_i64]; omega
  have h2 : m.tmod 256 = m % 256 := Int.tmod_eq_emod_of_nonneg m0
  have h3 : IntKind.i64.wrap (y - m % 256) = y - m % 256 := by rw [IntKind.wrap_i64]; omega
  rw [h1, h2, h3]; omega
theorem keepS {w w' : World} {a : Addr} {v : Value} (hc : w.cell? a = some v) (hb : Below w.heap.size w w') : w'.cell? a = some v ∧ Below w.heap.size w w' := ⟨by rw [hb.cell (cell_lt hc)]; exact hc, hb⟩
theorem specMod256 (n : Int) (w : World) : Calls Try.prog 57 #[.int .i64 n, .int .i64 256] w fun e w' => (∃ r : Int, e = .returned (.int .i64 r) ∧ r = n % 256 ∧ 0 ≤ r ∧ r < 256) ∧ w = w' := by
  refine (Num.specMod n 256 w).mono ?_
  rintro e w' ⟨rfl, rfl⟩
  exact ⟨⟨_, rfl, by simp [Num.modI], Num.modI_nonneg _ (by decide), Num.modI_lt _ (by decide)⟩, rfl⟩

set_option maxHeartbeats 2000000 in
theorem specEncrypt (s : Int) (v : Value) (l : List Int) (w : World) (h : Holds .u8 w v l) (hB : Byt l) (hl : l.length ≤ 8000000) :
    Calls Try.prog 28 #[.int .i64 s, v] w (GivesB w (enc s l)) := by
  obtain ⟨x, cap, rfl, hcap, hh⟩ := h.shape
  obtain ⟨n, hn⟩ : ∃ n, n = l.length := ⟨_, rfl⟩
  rw [← hn] at hcap hh hl ⊢
  have HN := Lib.hid hn; have HH := Lib.hid hh; have HBY := Lib.hid hB
  have H0 := Lib.hid (own_empty .u8 5 w)
  have B0 := Lib.hid ((Below.refl w.heap.size w).alloc (Nat.le_refl _) (.cells #[] 5))
  clear hn h hh hB
  go_enter Try.func28, Try.ntmps28
  go_wp2_with fail
  go_loopw [5, 6] (fun rv iv wr => ∃ k : Nat, k ≤ n ∧ iv = .int .i64 k ∧ Hid (Own 5 .u8 w.heap.size wr rv (chg (encF s) (l.take k))) ∧ Hid (Below w.heap.size w wr)) (fun _ iv _ => n - (intOf iv).toNat)
  case atStart => exact ⟨0, Nat.zero_le _, rfl, H0, B0⟩
  case round =>
    obtain ⟨k, hk, rfl, ho, hb⟩ := hrel
    by_cases hlt : k < n
    · have hlen := HN.out
      obtain ⟨b, off, rfl, hc⟩ := HH.out.at (j := k) (by omega)
      obtain ⟨y0, y1⟩ := HBY.out.at (j := k) (by omega)
      have HS := Lib.hid (Seal.chg_step (encF s) (l := l) (k := k) (by omega))
      have HTL := Lib.hid (Seal.chg_take_length (encF s) l k (by omega))
      have HC := Lib.hid hc
      clear hlen hc
      go_wp2_with fail
      have HBA := Lib.hid (hb.out.alloc hb.out.size (.cells #[.int .i64 (k : Int)] 3)).drew
      have HOA := Lib.hid (ho.out.on (((Below.refl wr.heap.size wr).alloc (Nat.le_refl _) (.cells #[.int .i64 (k : Int)] 3)).drew))
      have HON := Lib.hid ((holds_one .i64 3 wr (k : Int)).on (Below.refl _ _).drew)
      go_region_held3 (fun w' => w'.cell? ⟨b, off + k, none⟩ = some (.int .u8 (nth l k)) ∧ Below w.heap.size w w') (first | exact keepS HC.out hb.out.drew | exact keepS HC.out HBA.out | exact keepS HC.out (HBA.out.trans (hbC.mono HBA.out.size)) | exact keepS HC.out ((HBA.out.trans (hbC.mono HBA.out.size)).alloc (Nat.le_trans HBA.out.size hbC.size) _) | exact keepS HC.out (((HBA.out.trans (hbC.mono HBA.out.size)).alloc (Nat.le_trans HBA.out.size hbC.size) _).grown hg2 (Nat.le_trans (Nat.le_trans HBA.out.size hbC.size) (by simp)) (fun g hh => (HOA.out.lt g hh).1))) (first | (go_at_call 21; refine (specMAC1 s k _ _ HON.out).mono ?_; rintro e wc ⟨m, rfl, hm, m0, m1, hbC⟩; have HM := Lib.hid hm; clear hm) | (refine step_app (k := .u8) (B := w.heap.size) (l := chg (encF s) (l.take k)) (m := [IntKind.u8.wrap ((IntKind.i64.wrap (IntKind.i64.wrap (nth l k) + m.tmod 256)).tmod 256)]) rfl _ _ rfl Try.underlying22 elemBYTE rfl rfl rfl ((HOA.out.on hbC).on ((Below.refl _ _).alloc (Nat.le_refl _) _)) (holds_one .u8 _ _ _) ?_ (by decide) ?_ ?_; (rw [HTL.out, List.length_singleton]; omega); (exact Nat.le_trans (Nat.le_trans HBA.out.size hbC.size) (by simp)); intro v2 w2 ho2 hg2))
      all_goals
        have HO2 := Lib.hid ho2; have HB2 := Lib.hid (((HBA.out.trans (hbC.mono HBA.out.size)).alloc (Nat.le_trans HBA.out.size hbC.size) _).grown hg2 (Nat.le_trans (Nat.le_trans HBA.out.size hbC.size) (by simp)) (fun g hh => (HOA.out.lt g hh).1))
        clear ho2 hg2
        go_wp2_with fail
        go_roundw
        case rel => exact ⟨k + 1, by omega, by go_num, by rw [HS.out, show encF s k (nth l k) = IntKind.u8.wrap ((IntKind.i64.wrap (IntKind.i64.wrap (nth l k) + m.tmod 256)).tmod 256) by have := HM.out; unfold Seal.encF; rw [encEl y0 y1 m0 m1]; omega]; exact HO2, HB2⟩
        case measure => simp [intOf]; omega
    · obtain rfl : k = n := by omega
      clear hlt
      go_wp2_with fail
      go_ret
      refine ⟨_, rfl, ?_, hb.out⟩
      have := ho.out
      rw [HN.out, List.take_length] at this
      exact this

set_option maxHeartbeats 2000000 in
theorem specDecrypt (s : Int) (v : Value) (l : List Int) (w : World) (h : Holds .u8 w v l) (hB : Byt l) (hl : l.length ≤ 8000000) :
    Calls Try.prog 30 #[.int .i64 s, v] w (GivesB w (dec s l)) := by
  obtain ⟨x, cap, rfl, hcap, hh⟩ := h.shape
  obtain ⟨n, hn⟩ : ∃ n, n = l.length := ⟨_, rfl⟩
  rw [← hn] at hcap hh hl ⊢
  have HN := Lib.hid hn; have HH := Lib.hid hh; have HBY := Lib.hid hB
  have H0 := Lib.hid (own_empty .u8 5 w)
  have B0 := Lib.hid ((Below.refl w.heap.size w).alloc (Nat.le_refl _) (.cells #[] 5))
  clear hn h hh hB
  go_enter Try.func30, Try.ntmps30
  go_wp2_with fail
  go_loopw [5, 6] (fun rv iv wr => ∃ k : Nat, k ≤ n ∧ iv = .int .i64 k ∧ Hid (Own 5 .u8 w.heap.size wr rv (chg (decF s) (l.take k))) ∧ Hid (Below w.heap.size w wr)) (fun _ iv _ => n - (intOf iv).toNat)
  case atStart => exact ⟨0, Nat.zero_le _, rfl, H0, B0⟩
  case round =>
    obtain ⟨k, hk, rfl, ho, hb⟩ := hrel
    by_cases hlt : k < n
    · have hlen := HN.out
      obtain ⟨b, off, rfl, hc⟩ := HH.out.at (j := k) (by omega)
      obtain ⟨y0, y1⟩ := HBY.out.at (j := k) (by omega)
      have HS := Lib.hid (Seal.chg_step (decF s) (l := l) (k := k) (by omega))
      have HTL := Lib.hid (Seal.chg_take_length (decF s) l k (by omega))
      have HC := Lib.hid hc
      clear hlen hc
      go_wp2_with fail
      have HBA := Lib.hid (hb.out.alloc hb.out.size (.cells #[.int .i64 (k : Int)] 3)).drew
      have HOA := Lib.hid (ho.out.on (((Below.refl wr.heap.size wr).alloc (Nat.le_refl _) (.cells #[.int .i64 (k : Int)] 3)).drew))
      have HON := Lib.hid ((holds_one .i64 3 wr (k : Int)).on (Below.refl _ _).drew)
      go_region_held3 (fun w' => w'.cell? ⟨b, off + k, none⟩ = some (.int .u8 (nth l k)) ∧ Below w.heap.size w w') (first | exact keepS HC.out hb.out.drew | exact keepS HC.out HBA.out | exact keepS HC.out (HBA.out.trans (hbC.mono HBA.out.size)) | exact keepS HC.out ((HBA.out.trans (hbC.mono HBA.out.size)).alloc (Nat.le_trans HBA.out.size hbC.size) _) | exact keepS HC.out (((HBA.out.trans (hbC.mono HBA.out.size)).alloc (Nat.le_trans HBA.out.size hbC.size) _).grown hg2 (Nat.le_trans (Nat.le_trans HBA.out.size hbC.size) (by simp)) (fun g hh => (HOA.out.lt g hh).1))) (first | (go_at_call 21; refine (specMAC1 s k _ _ HON.out).mono ?_; rintro e wc ⟨m, rfl, hm, m0, m1, hbC⟩; have HM := Lib.hid hm; clear hm) | (go_at_call 57; refine (specMod256 _ _).mono ?_; rintro e wd ⟨⟨r, rfl, hr, r0, r1⟩, rfl⟩; have HR := Lib.hid hr; clear hr) | (refine step_app (k := .u8) (B := w.heap.size) (l := chg (decF s) (l.take k)) (m := [IntKind.u8.wrap r]) rfl _ _ rfl Try.underlying22 elemBYTE rfl rfl rfl ((HOA.out.on hbC).on ((Below.refl _ _).alloc (Nat.le_refl _) _)) (holds_one .u8 _ _ _) ?_ (by decide) ?_ ?_; (rw [HTL.out, List.length_singleton]; omega); (exact Nat.le_trans (Nat.le_trans HBA.out.size hbC.size) (by simp)); intro v2 w2 ho2 hg2))
      all_goals
        have HO2 := Lib.hid ho2; have HB2 := Lib.hid (((HBA.out.trans (hbC.mono HBA.out.size)).alloc (Nat.le_trans HBA.out.size hbC.size) _).grown hg2 (Nat.le_trans (Nat.le_trans HBA.out.size hbC.size) (by simp)) (fun g hh => (HOA.out.lt g hh).1))
        clear ho2 hg2
        go_wp2_with fail
        go_roundw
        case rel => exact ⟨k + 1, by omega, by go_num, by rw [HS.out, show decF s k (nth l k) = IntKind.u8.wrap r by have := HM.out; unfold Seal.decF; have h2 := HR.out; rw [decEl y0 y1 m0 m1] at h2; rw [wrap8 r0 (by omega)]; omega]; exact HO2, HB2⟩
        case measure => simp [intOf]; omega
    · obtain rfl : k = n := by omega
      clear hlt
      go_wp2_with fail
      go_ret
      refine ⟨_, rfl, ?_, hb.out⟩
      have := ho.out
      rw [HN.out, List.take_length] at this
      exact this

/-- A string's bytes, as numbers. -/
def bytesOf (t : ByteArray) : List Int := t.data.toList.map fun c => (c.toNat : Int)
theorem bytesOf_length (t : ByteArray) : (bytesOf t).length = t.size := by unfold bytesOf; rw [List.length_map, Array.length_toList]; rfl
theorem bytesOf_byt (t : ByteArray) : Byt (bytesOf t) := fun x hx => by
  unfold bytesOf at hx
  obtain ⟨c, _, rfl⟩ := List.mem_map.1 hx
  have := c.toNat_lt
  omega
theorem bytesOf_nth (t : ByteArray) {j : Nat} (hj : j < t.size) : nth (bytesOf t) j = (t.data.toList.getD j 0).toNat := by
  have h : j < t.data.toList.length := by rw [Array.length_toList]; exact hj
  rw [nth_eq (by rw [bytesOf_length]; exact hj)]
  simp only [bytesOf, List.getElem_map, List.getD, List.getElem?_eq_getElem h, Option.getD_some]

theorem conv_bytes (w : World) (t : ByteArray) :
    ∃ cap w', (convert 9 22 (.string t)).run Try.prog w = .ok (.slice (some ⟨w.heap.size, 0, none⟩) t.size cap) w' ∧ Holds .u8 w' (.slice (some ⟨w.heap.size, 0, none⟩) t.size cap) (bytesOf t) ∧ Below w.heap.size w w' := by
  refine ⟨_, _, Lib.run_convert_string_bytes w 9 22 5 t Try.underlying9 Try.underlying22 Try.underlying5, ?_, ?_⟩
  · refine ⟨_, _, by rw [bytesOf_length], by rw [bytesOf_length]; exact grownCap_ge w _ _ _, Or.inr ⟨_, _, rfl, fun j hj => ?_⟩⟩
    rw [bytesOf_length] at hj
    rw [Nat.zero_add, Lib.bytesWorld_cell w _ t j hj, bytesOf_nth t hj]
  · exact ⟨rfl, rfl, rfl, by rw [Lib.bytesWorld_size]; omega, fun k hk => Lib.bytesWorld_at_old w _ t k hk⟩

set_option maxHeartbeats 1000000 in
theorem implDeriveSecret (s : Int) (t : ByteArray) (w : World) (ht : t.size ≤ 4000000) :
    Calls Try.prog 35 #[.int .i64 s, .string t] w (GivesN w (derive s (bytesOf t))) := by
  obtain ⟨cap, w0, e0, h0, b0⟩ := conv_bytes w t
  have H0 := Lib.hid h0; have B0 := Lib.hid b0
  clear h0 b0
  go_enter Try.func35, Try.ntmps35
  go_wp2_with fail
  refine (implBytesToInts _ (bytesOf t) _ H0.out (bytesOf_byt t) (by rw [bytesOf_length]; omega)).mono ?_
  rintro e w1 ⟨v1, rfl, ho, hb⟩
  have HO := Lib.hid ho; have HB := Lib.hid (B0.out.trans (hb.mono B0.out.size))
  clear ho hb
  go_wp2_with fail
  refine (implComputeMAC s _ (b2i (bytesOf t)) _ HO.out.holds (by rw [Seal.b2i_length, bytesOf_length]; omega)).mono ?_
  rintro e w2 ⟨rfl, hb⟩
  replace HB := Lib.hid (HB.out.trans (hb.mono HB.out.size)); clear hb
  obtain ⟨m, hm⟩ : ∃ m, m = mac s (b2i (bytesOf t)) := ⟨_, rfl⟩
  rw [← hm]
  by_cases h0 : m = 0
  · have HD := Lib.hid (show derive s (bytesOf t) = 1 by unfold Seal.derive; rw [← hm, if_pos h0])
    clear hm
    subst h0
    go_wp2_with fail
    go_ret
    exact ⟨ret_int HD.out.symm, HB.out⟩
  · have HD := Lib.hid (show derive s (bytesOf t) = m by unfold Seal.derive; rw [← hm, if_neg h0])
    clear hm
    go_wp2_with fail
    go_ret
    exact ⟨ret_int HD.out.symm, HB.out⟩

set_option maxHeartbeats 1000000 in
theorem specDeriveSecret (s : Int) (t : ByteArray) (w : World) (ht : t.size ≤ 4000000) :
    Calls Try.prog 36 #[.int .i64 s, .string t] w (GivesN w (derive s (bytesOf t))) := by
  obtain ⟨cap, w0, e0, h0, b0⟩ := conv_bytes w t
  have H0 := Lib.hid h0; have B0 := Lib.hid b0
  clear h0 b0
  go_enter Try.func36, Try.ntmps36
  go_wp2_with fail
  refine (specBytesToInts _ (bytesOf t) _ H0.out (bytesOf_byt t) (by rw [bytesOf_length]; omega)).mono ?_
  rintro e w1 ⟨v1, rfl, ho, hb⟩
  have HO := Lib.hid ho; have HB := Lib.hid (B0.out.trans (hb.mono B0.out.size))
  clear ho hb
  go_wp2_with fail
  refine (specComputeMAC s _ (b2i (bytesOf t)) _ HO.out.holds (by rw [Seal.b2i_length, bytesOf_length]; omega)).mono ?_
  rintro e w2 ⟨rfl, hb⟩
  replace HB := Lib.hid (HB.out.trans (hb.mono HB.out.size)); clear hb
  have HD := Lib.hid (show Num.maxI 1 (mac s (b2i (bytesOf t))) = derive s (bytesOf t) by
    have := Seal.mac_in s (b2i (bytesOf t))
    unfold Seal.derive Num.maxI; split <;> split <;> omega)
  go_wp2_with fail
  refine (Num.specMax 1 _ _).mono ?_
  rintro e w3 ⟨rfl, rfl⟩
  go_wp2_with fail
  go_ret
  exact ⟨ret_int HD.out, HB.out⟩
end Go.Proofs.Ythcmfaipijcgdaa.Sl
