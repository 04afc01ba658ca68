/- Contracts and mathematics, joined: CacheD. No conditions but those that each states. -/
import Derived.WalkKit
import Derived.Deep.RegionHeld3
import Derived.Deep.RegionLaw
import Derived.Test.YtfglcmanmfenpaaGreatB10
/- slices.DeleteFunc and slices.Delete on rows of entries of the content store. No conditions but that lengths fit. -/
namespace Go.Proofs.YtfglcmanmfenpaaGreat.Row
open Go.ChangeShapes Go.WideShapes Go.ChangeAt Go.RowKit Go.Instr
set_option linter.unusedVariables false
set_option maxRecDepth 100000
theorem zvCe (w : World) : (zeroValue 64).run Tryz.prog w = .ok (.agg #[.slice none 0 0, .slice none 0 0, .slice none 0 0, .int .i64 0, .int .i64 0, .int .i64 0]) w := by kernel_rfl
theorem el_keep {B C : Nat} {w w' : World} {r : Rw Cem} {y : Cem} (h : kLCe.Own B C w r) (hg : w.grownBy w' r.v.ownBlock) (hy : y ∈ r.els) : kCe.holds w' y := by
  have h2 : (r.v.ownBlock.toList ++ r.els.flatMap kCe.blocks).Nodup := h.2.1
  have h3 := List.nodup_append.1 h2
  exact kCe.own_holds (kCe.own_keep (h.1.2 y hy) (fun g hgy => hg.block g (kCe.own_lt (h.1.2 y hy) g hgy).2 (fun er => h3.2.2 g (by rw [← er]; simp) g (List.mem_flatMap.2 ⟨y, hy, hgy⟩) rfl)))
set_option maxHeartbeats 8000000 in
theorem delFNd (b0 : Addr) (p : Cet → Bool) (ok : Cet → Prop) (B : Nat) (r : Rw Cem) (w : World) (h : kLCe.Own B w.heap.size w r) (hl : r.els.length ≤ 1100000) (hp : ∀ x ∈ r.els.map kCe.strip, ok x) (hc : ClosR Tryz.prog kCe 72 #[.pointer (some b0)] p ok w r.v.ownBlock) :
    Calls Tryz.prog 71 #[r.v, .func (.func 72) #[] #[.pointer (some b0)]] w fun e w' => ∃ r' : Rw Cem, e = .returned r'.v ∧ kLCe.Own B w'.heap.size w' r' ∧ r'.els.map kCe.strip = (r.els.map kCe.strip).filter (fun x => !p x) ∧ r'.els.length ≤ r.els.length ∧ w.grownBy w' r.v.ownBlock := by
  obtain ⟨ad, n, cap, L⟩ := r
  dsimp only at hl hp ⊢
  have HI := Lib.hid (indexNd b0 p ok (Rw.v ⟨ad, n, cap, L⟩) (L.map kCe.strip) w _ rfl ⟨⟨ad, n, cap, L⟩, rfl, rfl, h.holds⟩ (by rw [List.length_map]; omega) hp hc.plain)
  have HFULL := Lib.hid h
  rcases h.1.1.form with ⟨hv, hL⟩ | ⟨g, cap', hv, g1, g2, g3, g4⟩
  · cases hv
    dsimp only at hL
    subst hL
    clear h hc
    show Calls Tryz.prog 71 #[.slice none 0 0, .func (.func 72) #[] #[.pointer (some b0)]] w _
    go_enter Tryz.func71, Tryz.ntmps71
    go_wp2_with fail
    refine HI.out.mono ?_
    rintro e w1 ⟨rfl, hb⟩
    have HB := Lib.hid hb
    have hx : ixL p (([] : List Cem).map kCe.strip) = -1 := by simp [ixL]
    rw [hx]
    clear hb hx
    go_wp2_with fail
    go_ret
    exact ⟨⟨none, 0, 0, []⟩, rfl, HFULL.out.upto HB.out, by simp, Nat.le_refl _, Sl.grown_of_below HB.out _⟩
  · replace hv : Value.slice ad n cap = .slice (some ⟨g, 0, none⟩) L.length cap' := hv
    cases hv
    dsimp only at g3 g4
    obtain ⟨n, hn⟩ : ∃ n, n = L.length := ⟨_, rfl⟩
    show Calls Tryz.prog 71 #[.slice (some ⟨g, 0, none⟩) L.length cap, .func (.func 72) #[] #[.pointer (some b0)]] w _
    replace HI := Lib.hid (show Calls Tryz.prog _ #[.slice (some ⟨g, 0, none⟩) L.length cap, .func (.func 72) #[] #[.pointer (some b0)]] w _ from HI.out)
    rw [← hn] at h g3 hl HI hc HFULL ⊢
    have HN := Lib.hid hn
    have HC := Lib.hid (show ClosR Tryz.prog kCe 72 #[.pointer (some b0)] p ok w (some g) from hc)
    have HP := Lib.hid hp
    clear hn h hc hp
    go_enter Tryz.func71, Tryz.ntmps71
    go_wp2_with fail
    refine HI.out.mono ?_
    rintro e w1 ⟨rfl, hb⟩
    have HG1 := Lib.hid (Sl.grown_of_below hb (some g))
    have HO1 := Lib.hid (HFULL.out.1.1.on hb)
    clear hb HI
    rcases ixL_cases p (L.map kCe.strip) with ⟨h1, h3⟩ | ⟨i0, hi, h1, h4, h5⟩
    · rw [h1]
      have HV : Hid ((L.map kCe.strip).filter (fun x => !p x) = L.map kCe.strip) := Lib.hid (by
        rw [List.filter_eq_self]
        intro x hx
        obtain ⟨j, hj, rfl⟩ := List.getElem_of_mem hx
        have := h3 j hj
        rw [nth_eq hj] at this
        simp only [this]; rfl)
      clear h1 h3
      go_wp2_with fail
      go_ret
      exact ⟨⟨some ⟨g, 0, none⟩, n, cap, L⟩, rfl, Kd.sub noRow_kCe HFULL.out (List.Sublist.refl _) HG1.out (fun g' e => e) HO1.out, HV.out.symm, (by show L.length ≤ n; rw [HN.out]; exact Nat.le_refl _), HG1.out⟩
    · rw [h1]
      rw [List.length_map] at hi
      have HM : Hid (MidK (fun m => !p (kCe.strip m)) L L i0 (i0 + 1)) := Lib.hid (MidK.start hi (fun j hj => by have := h5 j hj; rw [nth_map _ (by omega)] at this; rw [this]; rfl) (by rw [nth_map _ hi] at h4; rw [h4]; rfl))
      have hi0 : i0 + 1 ≤ n := by have := HN.out; omega
      have hne : ((i0 : Int) == -1) = false := by simp <;> omega
      clear h1 h4 h5 hi
      go_wp2_with fail
      go_loopw [5, 6] (fun iv jv wr => ∃ i j : Nat, j ≤ n ∧ i < j ∧ iv = .int .i64 i ∧ jv = .int .i64 j ∧ ∃ L' : List Cem, Hid (MidK (fun m => !p (kCe.strip m)) L L' i j) ∧ Hid (OwnK 64 kCe.cells 6 B wr (.slice (some ⟨g, 0, none⟩) n cap) L') ∧ Hid (w.grownBy wr (some g))) (fun _ jv _ => n - (intOf jv).toNat)
      case atStart => exact ⟨i0, i0 + 1, hi0, by omega, rfl, by go_num, L, HM, HO1, HG1⟩
      case round =>
        clear HO1 HM HG1
        obtain ⟨i, j, hj, hij, rfl, rfl, L', hM, ho, hg⟩ := hrel
        by_cases hlt : j < n
        · have hlen := HN.out
          have hjl : j < L.length := by omega
          have hln : n = L'.length := by rw [hM.out.len]; exact hlen
          have hnj : nth L' j = nth L j := hM.out.rest j (Nat.le_refl _) hjl
          have hho := el_keep HFULL.out hg.out (nth_mem hjl)
          obtain ⟨y0, m0, d0, y1, m1, d1, y2, m2, d2, e9, hA⟩ := kCe_shapeA (Kd.at_of (k := kCe) hho)
          have hce : kCe.cells (nth L j) = [.slice y0 m0 d0, .slice y1 m1 d1, .slice y2 m2 d2, .int .i64 (kCe.strip (nth L j)).1.2.2.2.1, .int .i64 (kCe.strip (nth L j)).1.2.2.2.2, .int .i64 (kCe.strip (nth L j)).2] := by injection e9 with e; exact congrArg Array.toList e
          have hcs : ∀ i', i' < 6 → wr.cell? ⟨g, j * 6 + i', none⟩ = ([.slice y0 m0 d0, .slice y1 m1 d1, .slice y2 m2 d2, .int .i64 (kCe.strip (nth L j)).1.2.2.2.1, .int .i64 (kCe.strip (nth L j)).1.2.2.2.2, .int .i64 (kCe.strip (nth L j)).2] : List Value)[i']? := fun i' hi' => by
            have := (ownK_cell szCe_cells ho.out hln (j := j) (i := i') (by omega) hi').1
            rw [hnj, hce] at this
            exact this
          have hc0 : wr.cell? ⟨g, j * 6, none⟩ = some (.slice y0 m0 d0) := hcs 0 (by decide)
          have hc1 : wr.cell? ⟨g, j * 6 + 1, none⟩ = some (.slice y1 m1 d1) := hcs 1 (by decide)
          have hc2 : wr.cell? ⟨g, j * 6 + 2, none⟩ = some (.slice y2 m2 d2) := hcs 2 (by decide)
          have hc3 : wr.cell? ⟨g, j * 6 + 3, none⟩ = some (.int .i64 (kCe.strip (nth L j)).1.2.2.2.1) := hcs 3 (by decide)
          have hc4 : wr.cell? ⟨g, j * 6 + 4, none⟩ = some (.int .i64 (kCe.strip (nth L j)).1.2.2.2.2) := hcs 4 (by decide)
          have hc5 : wr.cell? ⟨g, j * 6 + 5, none⟩ = some (.int .i64 (kCe.strip (nth L j)).2) := hcs 5 (by decide)
          have hal := (Below.refl wr.heap.size wr).alloc (Nat.le_refl _) (.cells #[.slice y0 m0 d0, .slice y1 m1 d1, .slice y2 m2 d2, .int .i64 (kCe.strip (nth L j)).1.2.2.2.1, .int .i64 (kCe.strip (nth L j)).1.2.2.2.2, .int .i64 (kCe.strip (nth L j)).2] 64)
          have HGA := Lib.hid (Go.World.grownBy.trans hg.out (Sl.grown_of_below hal (some g)))
          have HCL := Lib.hid (HC.out (kCe.strip (nth L j)) _ _ HGA.out (hA.on hal) (HP.out _ (List.mem_map.2 ⟨_, nth_mem hjl, rfl⟩)))
          have HOA := Lib.hid (ho.out.on hal)
          have hXE := Ret.Blk.new wr #[.slice y0 m0 d0, .slice y1 m1 d1, .slice y2 m2 d2, .int .i64 (kCe.strip (nth L j)).1.2.2.2.1, .int .i64 (kCe.strip (nth L j)).1.2.2.2.2, .int .i64 (kCe.strip (nth L j)).2] 64
          have HXE := Lib.hid hXE
          have HIL := Lib.hid (show i < L'.length by omega)
          have HLN := Lib.hid hln
          have HJL := Lib.hid hjl
          have HCE := Lib.hid hce
          have hin : i < n := by omega
          clear hcs hnj hlen hal hjl hln e9 hA hho hce hXE
          obtain ⟨q, hq⟩ : ∃ q, p (kCe.strip (nth L j)) = q := ⟨_, rfl⟩
          rw [hq] at HCL
          have HQ := Lib.hid hq; clear hq
          go_wp2_with fail
          refine HCL.out.mono ?_
          rintro e w2 ⟨rfl, hb2⟩
          have hx2 := HXE.out.on hb2
          have f0 : w2.cell? ⟨wr.heap.size, 0, none⟩ = some (.slice y0 m0 d0) := hx2.cell 0
          have f1 : w2.cell? ⟨wr.heap.size, 1, none⟩ = some (.slice y1 m1 d1) := hx2.cell 1
          have f2 : w2.cell? ⟨wr.heap.size, 2, none⟩ = some (.slice y2 m2 d2) := hx2.cell 2
          have f3 : w2.cell? ⟨wr.heap.size, 3, none⟩ = some (.int .i64 (kCe.strip (nth L j)).1.2.2.2.1) := hx2.cell 3
          have f4 : w2.cell? ⟨wr.heap.size, 4, none⟩ = some (.int .i64 (kCe.strip (nth L j)).1.2.2.2.2) := hx2.cell 4
          have f5 : w2.cell? ⟨wr.heap.size, 5, none⟩ = some (.int .i64 (kCe.strip (nth L j)).2) := hx2.cell 5
          have HO2 := Lib.hid (HOA.out.on hb2)
          have HG2 := Lib.hid (Go.World.grownBy.trans HGA.out (Sl.grown_of_below hb2 (some g)))
          clear hc0 hc1 hc2 hc3 hc4 hc5 hb2 hx2 HCL HXE
          cases q with
          | true =>
            have HMS := Lib.hid (hM.out.skip HJL.out (by rw [HQ.out]; rfl))
            clear f0 f1 f2 f3 f4 f5
            go_wp2_with fail
            go_roundw
            case rel => exact ⟨i, j + 1, by omega, by omega, rfl, by go_num, L', HMS, HO2, HG2⟩
            case measure => simp [intOf]; omega
          | false =>
            have HMS := Lib.hid (hM.out.keep HJL.out (by rw [HQ.out]; rfl))
            have hcc : ∀ i', i' < 6 → ∃ z, w2.cell? ⟨g, i * 6 + i', none⟩ = some z := fun i' hi' => ⟨_, (ownK_cell szCe_cells HO2.out HLN.out (j := i) (i := i') HIL.out hi').1.trans (List.getElem?_eq_getElem (by rw [kCe.len]; exact hi'))⟩
            have hff : ∀ i', i' < 6 → w2.frozen? ⟨g, i * 6 + i', none⟩ = false := fun i' hi' => (ownK_cell szCe_cells HO2.out HLN.out (j := i) (i := i') HIL.out hi').2
            obtain ⟨z0, r0⟩ := hcc 0 (by decide); obtain ⟨z1, r1⟩ := hcc 1 (by decide); obtain ⟨z2, r2⟩ := hcc 2 (by decide); obtain ⟨z3, r3⟩ := hcc 3 (by decide); obtain ⟨z4, r4⟩ := hcc 4 (by decide); obtain ⟨z5, r5⟩ := hcc 5 (by decide)
            have t0 := hff 0 (by decide); have t1 := hff 1 (by decide); have t2 := hff 2 (by decide); have t3 := hff 3 (by decide); have t4 := hff 4 (by decide); have t5 := hff 5 (by decide)
            rw [Nat.add_zero] at r0 t0
            have s1 := ownK_put szCe_cells HO2.out HLN.out HIL.out (nth L j)
            have s2 := setCells_grown g (kCe.cells (nth L j)) (i * 6) w2
            rw [HCE.out] at s1 s2
            have HS1 := Lib.hid (show OwnK 64 kCe.cells 6 B ((((((w2.setCell ⟨g, i * 6, none⟩ (.slice y0 m0 d0)).setCell ⟨g, i * 6 + 1, none⟩ (.slice y1 m1 d1)).setCell ⟨g, i * 6 + 2, none⟩ (.slice y2 m2 d2)).setCell ⟨g, i * 6 + 3, none⟩ (.int .i64 (kCe.strip (nth L j)).1.2.2.2.1)).setCell ⟨g, i * 6 + 4, none⟩ (.int .i64 (kCe.strip (nth L j)).1.2.2.2.2)).setCell ⟨g, i * 6 + 5, none⟩ (.int .i64 (kCe.strip (nth L j)).2)) _ _ from s1)
            have HS2 := Lib.hid (Go.World.grownBy.trans HG2.out (show w2.grownBy ((((((w2.setCell ⟨g, i * 6, none⟩ (.slice y0 m0 d0)).setCell ⟨g, i * 6 + 1, none⟩ (.slice y1 m1 d1)).setCell ⟨g, i * 6 + 2, none⟩ (.slice y2 m2 d2)).setCell ⟨g, i * 6 + 3, none⟩ (.int .i64 (kCe.strip (nth L j)).1.2.2.2.1)).setCell ⟨g, i * 6 + 4, none⟩ (.int .i64 (kCe.strip (nth L j)).1.2.2.2.2)).setCell ⟨g, i * 6 + 5, none⟩ (.int .i64 (kCe.strip (nth L j)).2)) (some g) from s2))
            clear hcc hff s1 s2
            go_wp2_with fail
            go_roundw
            case rel => exact ⟨i + 1, j + 1, by omega, by omega, by go_num, by go_num, _, HMS, HS1, HS2⟩
            case measure => simp [intOf]; omega
        · obtain rfl : j = n := by omega
          have hln : j = L'.length := by rw [hM.out.len]; exact HN.out
          have HKK := Lib.hid (show i + (j - i) = L'.length by omega)
          have HLN := Lib.hid hln
          have hpos : 0 < j - i := by omega
          have hi1 : i ≤ cap := by omega
          clear hlt hln
          go_wp2_with (refine wpList_clearK kindCe rfl zvCe rfl _ rfl Tryz.underlying24 (i := i) (k := j - i) rfl ho.out HKK.out hpos ?_)
          intro w3 ho3 hg3
          have HO3 := Lib.hid ho3
          have HG3 := Lib.hid (Go.World.grownBy.trans hg.out hg3)
          clear ho3 hg3
          go_wp2_with fail
          go_ret
          have hlen3 : (L'.take i ++ List.replicate (j - i) default).length = j := by have := HLN.out; simp; omega
          have hfin := HO3.out.take szCe_cells (i := i) (by omega)
          have htk : (L'.take i ++ List.replicate (j - i) default).take i = L'.take i := by
            have hl1 : (L'.take i).length = i := by have := HLN.out; rw [List.length_take]; omega
            conv => lhs; arg 1; rw [← hl1]
            rw [List.take_left]
          have hall : L.take j = L := List.take_of_length_le (by rw [← HN.out]; exact Nat.le_refl _)
          rw [htk, hM.out.head, hall] at hfin
          refine ⟨⟨some ⟨g, 0, none⟩, i, cap, L.filter (fun m => !p (kCe.strip m))⟩, rfl, Kd.sub noRow_kCe HFULL.out List.filter_sublist HG3.out (fun g' e => e) hfin, ?_, (by show (L.filter _).length ≤ j; rw [HN.out]; exact List.length_filter_le _ _), HG3.out⟩
          show (L.filter (fun m => !p (kCe.strip m))).map kCe.strip = (L.map kCe.strip).filter (fun x => !p x)
          rw [List.filter_map]
          rfl
set_option maxHeartbeats 2000000 in
theorem closEv (b : Nat) (now : Int) (w : World) (row : Option Nat) (hr : some b ≠ row) (hc : Ret.Blk w b #[.int .i64 now] 3) :
    ClosR Tryz.prog kCe 55 #[.pointer (some ⟨b, 0, none⟩)] (fun x => !frE now x) (fun _ => True) w row := by
  intro x V W hW hx _
  obtain ⟨x0, n0, c0, x1, n1, c1, x2, n2, c2, rfl, hx⟩ := kCe_shapeA hx
  have hcW := hc.grown hW hr
  have hB := (Below.refl W.heap.size W).alloc (Nat.le_refl _) (.cells #[.slice x0 n0 c0, .slice x1 n1 c1, .slice x2 n2 c2, .int .i64 x.1.2.2.2.1, .int .i64 x.1.2.2.2.2, .int .i64 x.2] 64)
  have hcA := hcW.on hB
  have hX := Ret.Blk.new W #[.slice x0 n0 c0, .slice x1 n1 c1, .slice x2 n2 c2, .int .i64 x.1.2.2.2.1, .int .i64 x.1.2.2.2.2, .int .i64 x.2] 64
  have q0 : (W.alloc (.cells #[.slice x0 n0 c0, .slice x1 n1 c1, .slice x2 n2 c2, .int .i64 x.1.2.2.2.1, .int .i64 x.1.2.2.2.2, .int .i64 x.2] 64)).cell? ⟨b, 0, none⟩ = some (.int .i64 now) := hcA.cell 0
  have f0 : (W.alloc (.cells #[.slice x0 n0 c0, .slice x1 n1 c1, .slice x2 n2 c2, .int .i64 x.1.2.2.2.1, .int .i64 x.1.2.2.2.2, .int .i64 x.2] 64)).cell? ⟨W.heap.size, 0, none⟩ = some (.slice x0 n0 c0) := hX.cell 0
  have f1 : (W.alloc (.cells #[.slice x0 n0 c0, .slice x1 n1 c1, .slice x2 n2 c2, .int .i64 x.1.2.2.2.1, .int .i64 x.1.2.2.2.2, .int .i64 x.2] 64)).cell? ⟨W.heap.size, 1, none⟩ = some (.slice x1 n1 c1) := hX.cell 1
  have f2 : (W.alloc (.cells #[.slice x0 n0 c0, .slice x1 n1 c1, .slice x2 n2 c2, .int .i64 x.1.2.2.2.1, .int .i64 x.1.2.2.2.2, .int .i64 x.2] 64)).cell? ⟨W.heap.size, 2, none⟩ = some (.slice x2 n2 c2) := hX.cell 2
  have f3 : (W.alloc (.cells #[.slice x0 n0 c0, .slice x1 n1 c1, .slice x2 n2 c2, .int .i64 x.1.2.2.2.1, .int .i64 x.1.2.2.2.2, .int .i64 x.2] 64)).cell? ⟨W.heap.size, 3, none⟩ = some (.int .i64 x.1.2.2.2.1) := hX.cell 3
  have f4 : (W.alloc (.cells #[.slice x0 n0 c0, .slice x1 n1 c1, .slice x2 n2 c2, .int .i64 x.1.2.2.2.1, .int .i64 x.1.2.2.2.2, .int .i64 x.2] 64)).cell? ⟨W.heap.size, 4, none⟩ = some (.int .i64 x.1.2.2.2.2) := hX.cell 4
  have HD := Lib.hid ((kCe_parts hx).1.on hB)
  have HB := Lib.hid hB
  clear hcW hB hcA hX hx hc hW hr
  go_enter Tryz.func55, Tryz.ntmps55
  go_wp2_with fail
  refine (iFrZ now _ rfl HD.out).mono ?_
  rintro e w1 ⟨rfl, hb⟩
  have HB2 := Lib.hid (HB.out.trans (hb.mono HB.out.size)); clear hb
  go_wp2_with fail
  go_ret
  exact ⟨rfl, HB2.out⟩
set_option maxHeartbeats 2000000 in
theorem indexEv (b0 : Addr) (p : Cet → Bool) (ok : Cet → Prop) (v : Value) (l : List Cet) (w : World) (z : Int) (hz : ixL p l = z) (h : kLCe.At w v l) (hl : l.length ≤ 9000000) (hp : ∀ x ∈ l, ok x) (hc : ClosK Tryz.prog kCe 55 #[.pointer (some b0)] p ok w) :
    Calls Tryz.prog 76 #[v, .func (.func 55) #[] #[.pointer (some b0)]] w fun e w' => e = .returned (.int .i64 z) ∧ Below w.heap.size w w' := by
  obtain ⟨x, n, cx, L, rfl, hn, ht, hh, hel⟩ := kLCe_at h
  have hlen : l.length = n := by rw [← ht, List.length_map]; exact hn.symm
  rw [hlen] at hl
  have hcap : n ≤ cx := by obtain ⟨x', n', cap', hv, hn', hc', -⟩ := hh.shapeN; cases hv; exact hc'
  have HN := Lib.hid hn; have HT := Lib.hid ht; have HH := Lib.hid hh; have HEL := Lib.hid hel; have HLEN := Lib.hid hlen; have HP := Lib.hid hp; have HC := Lib.hid hc; have HZ := Lib.hid hz
  clear hn h hh hc hp ht hel hlen hz
  go_enter Tryz.func76, Tryz.ntmps76
  go_wp2
  go_loopw [8] (fun iv wr => ∃ i : Nat, i ≤ n ∧ iv = .int .i64 i ∧ Hid (noL p l i) ∧ Hid (Below w.heap.size w wr)) (fun iv _ => n - (intOf iv).toNat)
  case atStart => exact ⟨0, Nat.zero_le _, rfl, Lib.hid (noL_zero _ _), Lib.hid (Below.refl _ _)⟩
  case round =>
    obtain ⟨k, hk, rfl, ha, hb⟩ := hrel
    by_cases hlt : k < n
    · have hlen := HN.out
      obtain ⟨b, off, y0, m0, d0, y1, m1, d1, y2, m2, d2, rfl, -, hc0, hc1, hc2, hc3, hc4, hc5, hA⟩ := kLCe_elem (HH.out.on hb.out) (fun y hy => kCe.holds_on (HEL.out y hy) hb.out) (j := k) (by omega)
      have hpt : nth l k = kCe.strip (nth L k) := by rw [← HT.out, nth_map _ (by omega)]
      have hps := HP.out (nth l k) (nth_mem (by have := HLEN.out; omega))
      rw [hpt] at hps
      obtain ⟨q, hq⟩ : ∃ q, p (kCe.strip (nth L k)) = q := ⟨_, rfl⟩
      have HCL := HC.out _ _ wr hb.out hA hps
      rw [hq] at HCL
      rw [← hpt] at hq
      replace HCL := Lib.hid HCL
      have HQ := Lib.hid hq
      clear hlen hpt hps hA hq
      go_wp2_with fail
      refine HCL.out.mono ?_
      rintro e w2 ⟨rfl, hb2⟩
      have HB2 := Lib.hid (hb.out.trans (hb2.mono hb.out.size))
      clear hb2 hc0 hc1 hc2 hc3 hc4 hc5 HCL
      cases q with
      | true =>
        have HV := Lib.hid (show z = (k : Int) from HZ.out.symm.trans (ixL_at (by have := HLEN.out; omega) ha.out HQ.out))
        go_wp2
        go_ret
        exact ⟨ret_int HV.out.symm, HB2.out⟩
      | false =>
        have HA := Lib.hid (noL_succ ha.out HQ.out)
        go_wp2
        go_roundw
        case rel => exact ⟨k + 1, by omega, by go_num, HA, HB2⟩
        case measure => simp [intOf]; omega
    · obtain rfl : k = n := by omega
      have HV := Lib.hid (show z = -1 from HZ.out.symm.trans (ixL_none (by rw [HLEN.out]; exact ha.out)))
      clear hlt
      go_wp2
      go_ret
      exact ⟨ret_int HV.out.symm, hb.out⟩
set_option maxHeartbeats 8000000 in
theorem delFEv (b0 : Addr) (p : Cet → Bool) (ok : Cet → Prop) (B : Nat) (r : Rw Cem) (w : World) (h : kLCe.Own B w.heap.size w r) (hl : r.els.length ≤ 1100000) (hp : ∀ x ∈ r.els.map kCe.strip, ok x) (hc : ClosR Tryz.prog kCe 55 #[.pointer (some b0)] p ok w r.v.ownBlock) :
    Calls Tryz.prog 71 #[r.v, .func (.func 55) #[] #[.pointer (some b0)]] w fun e w' => ∃ r' : Rw Cem, e = .returned r'.v ∧ kLCe.Own B w'.heap.size w' r' ∧ r'.els.map kCe.strip = (r.els.map kCe.strip).filter (fun x => !p x) ∧ r'.els.length ≤ r.els.length ∧ w.grownBy w' r.v.ownBlock := by
  obtain ⟨ad, n, cap, L⟩ := r
  dsimp only at hl hp ⊢
  have HI := Lib.hid (indexEv b0 p ok (Rw.v ⟨ad, n, cap, L⟩) (L.map kCe.strip) w _ rfl ⟨⟨ad, n, cap, L⟩, rfl, rfl, h.holds⟩ (by rw [List.length_map]; omega) hp hc.plain)
  have HFULL := Lib.hid h
  rcases h.1.1.form with ⟨hv, hL⟩ | ⟨g, cap', hv, g1, g2, g3, g4⟩
  · cases hv
    dsimp only at hL
    subst hL
    clear h hc
    show Calls Tryz.prog 71 #[.slice none 0 0, .func (.func 55) #[] #[.pointer (some b0)]] w _
    go_enter Tryz.func71, Tryz.ntmps71
    go_wp2_with fail
    refine HI.out.mono ?_
    rintro e w1 ⟨rfl, hb⟩
    have HB := Lib.hid hb
    have hx : ixL p (([] : List Cem).map kCe.strip) = -1 := by simp [ixL]
    rw [hx]
    clear hb hx
    go_wp2_with fail
    go_ret
    exact ⟨⟨none, 0, 0, []⟩, rfl, HFULL.out.upto HB.out, by simp, Nat.le_refl _, Sl.grown_of_below HB.out _⟩
  · replace hv : Value.slice ad n cap = .slice (some ⟨g, 0, none⟩) L.length cap' := hv
    cases hv
    dsimp only at g3 g4
    obtain ⟨n, hn⟩ : ∃ n, n = L.length := ⟨_, rfl⟩
    show Calls Tryz.prog 71 #[.slice (some ⟨g, 0, none⟩) L.length cap, .func (.func 55) #[] #[.pointer (some b0)]] w _
    replace HI := Lib.hid (show Calls Tryz.prog _ #[.slice (some ⟨g, 0, none⟩) L.length cap, .func (.func 55) #[] #[.pointer (some b0)]] w _ from HI.out)
    rw [← hn] at h g3 hl HI hc HFULL ⊢
    have HN := Lib.hid hn
    have HC := Lib.hid (show ClosR Tryz.prog kCe 55 #[.pointer (some b0)] p ok w (some g) from hc)
    have HP := Lib.hid hp
    clear hn h hc hp
    go_enter Tryz.func71, Tryz.ntmps71
    go_wp2_with fail
    refine HI.out.mono ?_
    rintro e w1 ⟨rfl, hb⟩
    have HG1 := Lib.hid (Sl.grown_of_below hb (some g))
    have HO1 := Lib.hid (HFULL.out.1.1.on hb)
    clear hb HI
    rcases ixL_cases p (L.map kCe.strip) with ⟨h1, h3⟩ | ⟨i0, hi, h1, h4, h5⟩
    · rw [h1]
      have HV : Hid ((L.map kCe.strip).filter (fun x => !p x) = L.map kCe.strip) := Lib.hid (by
        rw [List.filter_eq_self]
        intro x hx
        obtain ⟨j, hj, rfl⟩ := List.getElem_of_mem hx
        have := h3 j hj
        rw [nth_eq hj] at this
        simp only [this]; rfl)
      clear h1 h3
      go_wp2_with fail
      go_ret
      exact ⟨⟨some ⟨g, 0, none⟩, n, cap, L⟩, rfl, Kd.sub noRow_kCe HFULL.out (List.Sublist.refl _) HG1.out (fun g' e => e) HO1.out, HV.out.symm, (by show L.length ≤ n; rw [HN.out]; exact Nat.le_refl _), HG1.out⟩
    · rw [h1]
      rw [List.length_map] at hi
      have HM : Hid (MidK (fun m => !p (kCe.strip m)) L L i0 (i0 + 1)) := Lib.hid (MidK.start hi (fun j hj => by have := h5 j hj; rw [nth_map _ (by omega)] at this; rw [this]; rfl) (by rw [nth_map _ hi] at h4; rw [h4]; rfl))
      have hi0 : i0 + 1 ≤ n := by have := HN.out; omega
      have hne : ((i0 : Int) == -1) = false := by simp <;> omega
      clear h1 h4 h5 hi
      go_wp2_with fail
      go_loopw [5, 6] (fun iv jv wr => ∃ i j : Nat, j ≤ n ∧ i < j ∧ iv = .int .i64 i ∧ jv = .int .i64 j ∧ ∃ L' : List Cem, Hid (MidK (fun m => !p (kCe.strip m)) L L' i j) ∧ Hid (OwnK 64 kCe.cells 6 B wr (.slice (some ⟨g, 0, none⟩) n cap) L') ∧ Hid (w.grownBy wr (some g))) (fun _ jv _ => n - (intOf jv).toNat)
      case atStart => exact ⟨i0, i0 + 1, hi0, by omega, rfl, by go_num, L, HM, HO1, HG1⟩
      case round =>
        clear HO1 HM HG1
        obtain ⟨i, j, hj, hij, rfl, rfl, L', hM, ho, hg⟩ := hrel
        by_cases hlt : j < n
        · have hlen := HN.out
          have hjl : j < L.length := by omega
          have hln : n = L'.length := by rw [hM.out.len]; exact hlen
          have hnj : nth L' j = nth L j := hM.out.rest j (Nat.le_refl _) hjl
          have hho := el_keep HFULL.out hg.out (nth_mem hjl)
          obtain ⟨y0, m0, d0, y1, m1, d1, y2, m2, d2, e9, hA⟩ := kCe_shapeA (Kd.at_of (k := kCe) hho)
          have hce : kCe.cells (nth L j) = [.slice y0 m0 d0, .slice y1 m1 d1, .slice y2 m2 d2, .int .i64 (kCe.strip (nth L j)).1.2.2.2.1, .int .i64 (kCe.strip (nth L j)).1.2.2.2.2, .int .i64 (kCe.strip (nth L j)).2] := by injection e9 with e; exact congrArg Array.toList e
          have hcs : ∀ i', i' < 6 → wr.cell? ⟨g, j * 6 + i', none⟩ = ([.slice y0 m0 d0, .slice y1 m1 d1, .slice y2 m2 d2, .int .i64 (kCe.strip (nth L j)).1.2.2.2.1, .int .i64 (kCe.strip (nth L j)).1.2.2.2.2, .int .i64 (kCe.strip (nth L j)).2] : List Value)[i']? := fun i' hi' => by
            have := (ownK_cell szCe_cells ho.out hln (j := j) (i := i') (by omega) hi').1
            rw [hnj, hce] at this
            exact this
          have hc0 : wr.cell? ⟨g, j * 6, none⟩ = some (.slice y0 m0 d0) := hcs 0 (by decide)
          have hc1 : wr.cell? ⟨g, j * 6 + 1, none⟩ = some (.slice y1 m1 d1) := hcs 1 (by decide)
          have hc2 : wr.cell? ⟨g, j * 6 + 2, none⟩ = some (.slice y2 m2 d2) := hcs 2 (by decide)
          have hc3 : wr.cell? ⟨g, j * 6 + 3, none⟩ = some (.int .i64 (kCe.strip (nth L j)).1.2.2.2.1) := hcs 3 (by decide)
          have hc4 : wr.cell? ⟨g, j * 6 + 4, none⟩ = some (.int .i64 (kCe.strip (nth L j)).1.2.2.2.2) := hcs 4 (by decide)
          have hc5 : wr.cell? ⟨g, j * 6 + 5, none⟩ = some (.int .i64 (kCe.strip (nth L j)).2) := hcs 5 (by decide)
          have hal := (Below.refl wr.heap.size wr).alloc (Nat.le_refl _) (.cells #[.slice y0 m0 d0, .slice y1 m1 d1, .slice y2 m2 d2, .int .i64 (kCe.strip (nth L j)).1.2.2.2.1, .int .i64 (kCe.strip (nth L j)).1.2.2.2.2, .int .i64 (kCe.strip (nth L j)).2] 64)
          have HGA := Lib.hid (Go.World.grownBy.trans hg.out (Sl.grown_of_below hal (some g)))
          have HCL := Lib.hid (HC.out (kCe.strip (nth L j)) _ _ HGA.out (hA.on hal) (HP.out _ (List.mem_map.2 ⟨_, nth_mem hjl, rfl⟩)))
          have HOA := Lib.hid (ho.out.on hal)
          have hXE := Ret.Blk.new wr #[.slice y0 m0 d0, .slice y1 m1 d1, .slice y2 m2 d2, .int .i64 (kCe.strip (nth L j)).1.2.2.2.1, .int .i64 (kCe.strip (nth L j)).1.2.2.2.2, .int .i64 (kCe.strip (nth L j)).2] 64
          have HXE := Lib.hid hXE
          have HIL := Lib.hid (show i < L'.length by omega)
          have HLN := Lib.hid hln
          have HJL := Lib.hid hjl
          have HCE := Lib.hid hce
          have hin : i < n := by omega
          clear hcs hnj hlen hal hjl hln e9 hA hho hce hXE
          obtain ⟨q, hq⟩ : ∃ q, p (kCe.strip (nth L j)) = q := ⟨_, rfl⟩
          rw [hq] at HCL
          have HQ := Lib.hid hq; clear hq
          go_wp2_with fail
          refine HCL.out.mono ?_
          rintro e w2 ⟨rfl, hb2⟩
          have hx2 := HXE.out.on hb2
          have f0 : w2.cell? ⟨wr.heap.size, 0, none⟩ = some (.slice y0 m0 d0) := hx2.cell 0
          have f1 : w2.cell? ⟨wr.heap.size, 1, none⟩ = some (.slice y1 m1 d1) := hx2.cell 1
          have f2 : w2.cell? ⟨wr.heap.size, 2, none⟩ = some (.slice y2 m2 d2) := hx2.cell 2
          have f3 : w2.cell? ⟨wr.heap.size, 3, none⟩ = some (.int .i64 (kCe.strip (nth L j)).1.2.2.2.1) := hx2.cell 3
          have f4 : w2.cell? ⟨wr.heap.size, 4, none⟩ = some (.int .i64 (kCe.strip (nth L j)).1.2.2.2.2) := hx2.cell 4
          have f5 : w2.cell? ⟨wr.heap.size, 5, none⟩ = some (.int .i64 (kCe.strip (nth L j)).2) := hx2.cell 5
          have HO2 := Lib.hid (HOA.out.on hb2)
          have HG2 := Lib.hid (Go.World.grownBy.trans HGA.out (Sl.grown_of_below hb2 (some g)))
          clear hc0 hc1 hc2 hc3 hc4 hc5 hb2 hx2 HCL HXE
          cases q with
          | true =>
            have HMS := Lib.hid (hM.out.skip HJL.out (by rw [HQ.out]; rfl))
            clear f0 f1 f2 f3 f4 f5
            go_wp2_with fail
            go_roundw
            case rel => exact ⟨i, j + 1, by omega, by omega, rfl, by go_num, L', HMS, HO2, HG2⟩
            case measure => simp [intOf]; omega
          | false =>
            have HMS := Lib.hid (hM.out.keep HJL.out (by rw [HQ.out]; rfl))
            have hcc : ∀ i', i' < 6 → ∃ z, w2.cell? ⟨g, i * 6 + i', none⟩ = some z := fun i' hi' => ⟨_, (ownK_cell szCe_cells HO2.out HLN.out (j := i) (i := i') HIL.out hi').1.trans (List.getElem?_eq_getElem (by rw [kCe.len]; exact hi'))⟩
            have hff : ∀ i', i' < 6 → w2.frozen? ⟨g, i * 6 + i', none⟩ = false := fun i' hi' => (ownK_cell szCe_cells HO2.out HLN.out (j := i) (i := i') HIL.out hi').2
            obtain ⟨z0, r0⟩ := hcc 0 (by decide); obtain ⟨z1, r1⟩ := hcc 1 (by decide); obtain ⟨z2, r2⟩ := hcc 2 (by decide); obtain ⟨z3, r3⟩ := hcc 3 (by decide); obtain ⟨z4, r4⟩ := hcc 4 (by decide); obtain ⟨z5, r5⟩ := hcc 5 (by decide)
            have t0 := hff 0 (by decide); have t1 := hff 1 (by decide); have t2 := hff 2 (by decide); have t3 := hff 3 (by decide); have t4 := hff 4 (by decide); have t5 := hff 5 (by decide)
            rw [Nat.add_zero] at r0 t0
            have s1 := ownK_put szCe_cells HO2.out HLN.out HIL.out (nth L j)
            have s2 := setCells_grown g (kCe.cells (nth L j)) (i * 6) w2
            rw [HCE.out] at s1 s2
            have HS1 := Lib.hid (show OwnK 64 kCe.cells 6 B ((((((w2.setCell ⟨g, i * 6, none⟩ (.slice y0 m0 d0)).setCell ⟨g, i * 6 + 1, none⟩ (.slice y1 m1 d1)).setCell ⟨g, i * 6 + 2, none⟩ (.slice y2 m2 d2)).setCell ⟨g, i * 6 + 3, none⟩ (.int .i64 (kCe.strip (nth L j)).1.2.2.2.1)).setCell ⟨g, i * 6 + 4, none⟩ (.int .i64 (kCe.strip (nth L j)).1.2.2.2.2)).setCell ⟨g, i * 6 + 5, none⟩ (.int .i64 (kCe.strip (nth L j)).2)) _ _ from s1)
            have HS2 := Lib.hid (Go.World.grownBy.trans HG2.out (show w2.grownBy ((((((w2.setCell ⟨g, i * 6, none⟩ (.slice y0 m0 d0)).setCell ⟨g, i * 6 + 1, none⟩ (.slice y1 m1 d1)).setCell ⟨g, i * 6 + 2, none⟩ (.slice y2 m2 d2)).setCell ⟨g, i * 6 + 3, none⟩ (.int .i64 (kCe.strip (nth L j)).1.2.2.2.1)).setCell ⟨g, i * 6 + 4, none⟩ (.int .i64 (kCe.strip (nth L j)).1.2.2.2.2)).setCell ⟨g, i * 6 + 5, none⟩ (.int .i64 (kCe.strip (nth L j)).2)) (some g) from s2))
            clear hcc hff s1 s2
            go_wp2_with fail
            go_roundw
            case rel => exact ⟨i + 1, j + 1, by omega, by omega, by go_num, by go_num, _, HMS, HS1, HS2⟩
            case measure => simp [intOf]; omega
        · obtain rfl : j = n := by omega
          have hln : j = L'.length := by rw [hM.out.len]; exact HN.out
          have HKK := Lib.hid (show i + (j - i) = L'.length by omega)
          have HLN := Lib.hid hln
          have hpos : 0 < j - i := by omega
          have hi1 : i ≤ cap := by omega
          clear hlt hln
          go_wp2_with (refine wpList_clearK kindCe rfl zvCe rfl _ rfl Tryz.underlying24 (i := i) (k := j - i) rfl ho.out HKK.out hpos ?_)
          intro w3 ho3 hg3
          have HO3 := Lib.hid ho3
          have HG3 := Lib.hid (Go.World.grownBy.trans hg.out hg3)
          clear ho3 hg3
          go_wp2_with fail
          go_ret
          have hlen3 : (L'.take i ++ List.replicate (j - i) default).length = j := by have := HLN.out; simp; omega
          have hfin := HO3.out.take szCe_cells (i := i) (by omega)
          have htk : (L'.take i ++ List.replicate (j - i) default).take i = L'.take i := by
            have hl1 : (L'.take i).length = i := by have := HLN.out; rw [List.length_take]; omega
            conv => lhs; arg 1; rw [← hl1]
            rw [List.take_left]
          have hall : L.take j = L := List.take_of_length_le (by rw [← HN.out]; exact Nat.le_refl _)
          rw [htk, hM.out.head, hall] at hfin
          refine ⟨⟨some ⟨g, 0, none⟩, i, cap, L.filter (fun m => !p (kCe.strip m))⟩, rfl, Kd.sub noRow_kCe HFULL.out List.filter_sublist HG3.out (fun g' e => e) hfin, ?_, (by show (L.filter _).length ≤ j; rw [HN.out]; exact List.length_filter_le _ _), HG3.out⟩
          show (L.filter (fun m => !p (kCe.strip m))).map kCe.strip = (L.map kCe.strip).filter (fun x => !p x)
          rw [List.filter_map]
          rfl
theorem holds_rest {w : World} {g n cap i : Nat} {L : List Cem} (h : HoldsK kCe.cells 6 w (.slice (some ⟨g, 0, none⟩) n cap) L) (hi : i ≤ L.length) : HoldsK kCe.cells 6 w (.slice (if cap = i then some ⟨g, 0, none⟩ else some ⟨g, i * 6, none⟩) (n - i) (cap - i)) (L.drop i) := by
  have hn := h.lenEq
  obtain ⟨x', n', cap', hv, hn', hc', -⟩ := h.shapeN
  cases hv
  by_cases e : cap = i
  · rw [if_pos e]
    exact holds_dropIf szCe_cells h hi (Or.inr (by omega))
  · rw [if_neg e]
    exact holds_dropIf szCe_cells h hi (Or.inl (by rw [Nat.zero_add]))
set_option maxHeartbeats 8000000 in
theorem delOne (B : Nat) (r : Rw Cem) (i : Nat) (w : World) (h : kLCe.Own B w.heap.size w r) (hi : i < r.els.length) (hl : r.els.length ≤ 1100000) :
    Calls Tryz.prog 74 #[r.v, .int .i64 i, .int .i64 ((i : Int) + 1)] w fun e w' => ∃ r' : Rw Cem, e = .returned r'.v ∧ kLCe.Own B w'.heap.size w' r' ∧ r'.els = r.els.eraseIdx i ∧ w.grownBy w' r.v.ownBlock := by
  obtain ⟨ad, n, cap, L⟩ := r
  dsimp only at hl hi ⊢
  have HFULL := Lib.hid h
  rcases h.1.1.form with ⟨hv, hL⟩ | ⟨g, cap', hv, g1, g2, g3, g4⟩
  · dsimp only at hL
    rw [hL] at hi
    exact absurd hi (by simp)
  · replace hv : Value.slice ad n cap = .slice (some ⟨g, 0, none⟩) L.length cap' := hv
    cases hv
    dsimp only at g3 g4
    obtain ⟨N, hN⟩ : ∃ N, L.length = N + 1 := ⟨L.length - 1, by omega⟩
    show Calls Tryz.prog 74 #[.slice (some ⟨g, 0, none⟩) L.length cap, .int .i64 i, .int .i64 ((i : Int) + 1)] w _
    have hh := h.1.1.holds
    have hO : OwnK 64 kCe.cells 6 B w (.slice (some ⟨g, 0, none⟩) i cap) (L.take i) := h.1.1.take szCe_cells (i := i) (by show i ≤ L.length; omega)
    have hR := holds_rest (i := i + 1) (show HoldsK kCe.cells 6 w (.slice (some ⟨g, 0, none⟩) L.length cap) L from hh) (by omega)
    have hroom : (L.take i).length + (L.drop (i + 1)).length ≤ cap := by rw [List.length_take, List.length_drop]; omega
    have hsum : (L.take i).length + (L.drop (i + 1)).length = N := by rw [List.length_take, List.length_drop]; omega
    have hne : ((i : Int) == (i : Int) + 1) = false := by simp <;> omega
    obtain ⟨j, hj⟩ : ∃ j, j = i + 1 := ⟨_, rfl⟩
    have hg2 : (i : Int) + 1 = (j : Int) := by omega
    rw [hg2] at hne ⊢
    rw [← hj] at hR hroom hsum
    rw [hN] at hR hi hl g3 ⊢
    have hi2 : i ≤ N := by omega
    have hij : i ≤ j := by omega
    have hjN : j ≤ N + 1 := by omega
    have hjc : j ≤ cap := by omega
    have hic : i ≤ cap := by omega
    have u1 : (i : Int) ≤ (j : Int) := by omega
    have u2 : (j : Int) ≤ (N : Int) + 1 := by omega
    have u3 : (N : Int) + 1 ≤ (cap : Int) := by omega
    have HJ := Lib.hid hj
    clear hj hg2 hN
    have HO := Lib.hid (hO.on (Below.refl _ _).drew); have HR := Lib.hid (hR.on (Below.refl w.heap.size w).drew); have HRM := Lib.hid hroom; have HSM := Lib.hid hsum
    clear hh hO hR hroom hsum h
    go_enter Tryz.func74, Tryz.ntmps74
    go_wp2_with fail
    go_region_law (refine step_appFits kindCe (B := B) (g := g) (n := i) (cap := cap) (l := L.take i) (m := L.drop j) rfl _ _ (by rfl) Tryz.underlying24 (by rfl) (by rfl) HO.out HR.out HRM.out ?_; intro w4 M hM ho4 hg4; rw [HSM.out] at hM; subst hM; have HO4 := Lib.hid ho4; have HG4 := Lib.hid hg4; clear ho4 hg4)
    all_goals
      clear HR
      generalize (if cap = j then (some ⟨g, 0, none⟩ : Option Addr) else some ⟨g, j * 6, none⟩) = xo7
      have hc1 : M + 1 ≤ cap := by omega
      have hML : M = (L.take i ++ L.drop j).length := by rw [List.length_append, HSM.out]
      have HML := Lib.hid hML; clear hML
      go_wp2_with (refine wpList_clearPast kindCe rfl zvCe rfl _ rfl Tryz.underlying24 (i := M) (k := 1) rfl HO4.out HML.out hc1 (by decide) ?_)
      intro w5 ho5 hg5
      have HO5 := Lib.hid ho5; have HG5 := Lib.hid (Go.World.grownBy.trans (Go.World.grownBy.trans (Sl.grown_of_below (Below.refl w.heap.size w).drew (some g)) HG4.out) hg5)
      clear ho5 hg5
      go_wp2_with fail
      go_ret
      exact ⟨⟨some ⟨g, 0, none⟩, M, _, L.take i ++ L.drop j⟩, rfl, Kd.sub noRow_kCe HFULL.out (by rw [HJ.out, ← erase_parts]; exact List.eraseIdx_sublist _ _) HG5.out (fun g' e => e) HO5.out, by rw [HJ.out]; exact (erase_parts L i).symm, HG5.out⟩
end Go.Proofs.YtfglcmanmfenpaaGreat.Row
