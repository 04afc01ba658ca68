/- Contracts and mathematics, joined: TrustJ. No conditions but those that each states. -/
import Derived.Test.YtcidfmmeonhkhaaB23
/- Regions of the exact law on IssueCertificate: arguments copied, the call, the result laid in a variable, whatever order is drawn. No conditions. -/
namespace Go.Proofs.Ytcidfmmeonhkhaa.Row
open Go.ChangeShapes Go.WideShapes Go.ChangeAt Go.RowKit Go.Instr
set_option linter.unusedVariables false
set_option maxRecDepth 100000

set_option maxRecDepth 100000 in
set_option maxHeartbeats 4000000 in
theorem specIS0 {Q : Exit → Act → World → Prop} {v1 v2 v4 v7 v8 v9 v10 v11 v12 v13 v14 v15 v16 v17 v18 v19 v20 v21 v22 v23 v24 v25 v26 v27 v28 v29 v30 v31 v32 v33 v34 v35 v36 v37 v38 v39 v40 v41 v42 v43 v44 v45 v46 v47 v48 v49 v50 v51 v52 v53 v54 v55 v56 v57 v58 v59 v60 v61 v62 v63 v64 v65 v66 v67 v68 v69 v70 v71 v72 v73 v74 v75 v76 v77 v78 v79 v80 v81 v82 v83 v84 v85 v86 v87 v88 v89 v90 v91 v92 v93 v94 v95 v96 v97 v98 v99 v100 v101 v102 v103 v104 v105 v106 v107 v108 v109 v110 v111 v112 v113 v114 v115 v116 v117 v118 v119 v120 v121 v122 v123 v124 v125 v126 v127 v128 v129 v130 v131 v132 v133 v134 v135 v136 v137 v138 v139 v140 v141 v142 v143 v144 v145 v146 : Value} {w : World} {p q nl cl nk ck nn cn : Nat} {xl xk xn : Option Addr} {l0 : Ring.Kt} {l1 l2 : List ByteArray} {a3 : Int} (H0 : Hid (Ring.kK.At w (.slice xl nl cl) l0)) (H1 : Hid (kN.At w (.agg #[.slice xn nn cn]) l1)) (H2 : Hid (kN.At w (.agg #[.slice xk nk ck]) l2)) (Z0 : Ring.bulkT l0 ≤ 1048576) (Z1 : bulk l1 ≤ 1048576) (Z2 : bulk l2 ≤ 1048576) (KN : Hid (w.cell? ⟨p, 0, none⟩ = some (.slice xn nn cn))) (KK : Hid (w.cell? ⟨q, 0, none⟩ = some (.slice xk nk ck)))
    (hQ : ∀ (u37 u38 u39 u40 u41 u42 u43 u44 u45 u46 u47 : Value) (gD ma da mb db mc dc_ : Nat) (ya yb yc : Option Addr)  (wx : World), w.heap.size ≤ gD → Ret.Blk wx gD (dc (.slice none 0 0) (.slice none 0 0) (.slice none 0 0) 0 0) 61 → kD.In w.heap.size wx.heap.size wx (.agg #[.slice ya ma da, .slice yb mb db, .slice yc mc dc_, .int .i64 (Ring.sgK l0 l2 l1 (digK l0 l1) a3).2.2.2.1, .int .i64 (Ring.sgK l0 l2 l1 (digK l0 l1) a3).2.2.2.2]) (Ring.sgK l0 l2 l1 (digK l0 l1) a3) → Below w.heap.size w wx → Q .normal ⟨#[.slice xl nl cl, v1, v2, .int .i64 a3, v4, .pointer (some ⟨p, 0, none⟩), .pointer (some ⟨q, 0, none⟩), v7, v8, v9, .pointer (some ⟨gD, 0, none⟩), .bool (Ring.sgOk l0 l2 l1 (digK l0 l1) a3), v12, v13, v14, v15, v16, v17, v18, v19, v20, v21, v22, v23, v24, v25, v26, v27, v28, v29, v30, v31, v32, v33, v34, v35, v36, u37, u38, u39, u40, u41, u42, u43, u44, u45, u46, u47, v48, v49, v50, v51, v52, v53, v54, v55, v56, v57, v58, v59, v60, v61, v62, v63, v64, v65, v66, v67, v68, v69, v70, v71, v72, v73, v74, v75, v76, v77, v78, v79, v80, v81, v82, v83, v84, v85, v86, v87, v88, v89, v90, v91, v92, v93, v94, v95, v96, v97, v98, v99, v100, v101, v102, v103, v104, v105, v106, v107, v108, v109, v110, v111, v112, v113, v114, v115, v116, v117, v118, v119, v120, v121, v122, v123, v124, v125, v126, v127, v128, v129, v130, v131, v132, v133, v134, v135, v136, v137, v138, v139, v140, v141, v142, v143, v144, v145, v146], []⟩ ((((((wx).setCell ⟨gD, 0, none⟩ (.slice ya ma da)).setCell ⟨gD, 1, none⟩ (.slice yb mb db)).setCell ⟨gD, 2, none⟩ (.slice yc mc dc_)).setCell ⟨gD, 3, none⟩ (.int .i64 (Ring.sgK l0 l2 l1 (digK l0 l1) a3).2.2.2.1)).setCell ⟨gD, 4, none⟩ (.int .i64 (Ring.sgK l0 l2 l1 (digK l0 l1) a3).2.2.2.2))) :
    (Code.region 11 #[{ dst := some 38, op := Op.move (Operand.tmp 0), type := 22, pos := "exact.go:6872", after := #[], guard := none },
      { dst := some 39, op := Op.call { callee := Callee.value (Operand.func 16), args := #[Operand.tmp 38], argTypes := #[22] }, type := 30, pos := "exact.go:6872", after := #[{ on := 0, ground := Ground.data }], guard := none },
      { dst := some 40, op := Op.load 41 (Operand.tmp 5), type := 41, pos := "exact.go:6872", after := #[], guard := none },
      { dst := some 41, op := Op.call { callee := Callee.value (Operand.func 17), args := #[Operand.tmp 40], argTypes := #[41] }, type := 47, pos := "exact.go:6872", after := #[{ on := 2, ground := Ground.data }, { on := 1, ground := Ground.chain }], guard := none },
      { dst := some 42, op := Op.load 41 (Operand.tmp 6), type := 41, pos := "exact.go:6872", after := #[], guard := none },
      { dst := some 43, op := Op.call { callee := Callee.value (Operand.func 17), args := #[Operand.tmp 42], argTypes := #[41] }, type := 47, pos := "exact.go:6872", after := #[{ on := 4, ground := Ground.data }, { on := 3, ground := Ground.chain }], guard := none },
      { dst := some 44, op := Op.move (Operand.tmp 3), type := 3, pos := "exact.go:6872", after := #[], guard := none },
      { dst := some 45, op := Op.call { callee := Callee.value (Operand.func 30), args := #[Operand.tmp 39, Operand.tmp 41, Operand.tmp 43, Operand.tmp 44], argTypes := #[30, 47, 47, 3] }, type := 62, pos := "exact.go:6872", after := #[{ on := 1, ground := Ground.data }, { on := 3, ground := Ground.data }, { on := 5, ground := Ground.data }, { on := 6, ground := Ground.data }, { on := 5, ground := Ground.chain }], guard := none },
      { dst := some 37, op := Op.move (Operand.tmp 45), type := 62, pos := "exact.go:6872", after := #[{ on := 7, ground := Ground.data }], guard := none },
      { dst := some 46, op := Op.extract (Operand.tmp 37) 0, type := 61, pos := "exact.go:6872", after := #[{ on := 8, ground := Ground.data }], guard := none },
      { dst := some 47, op := Op.extract (Operand.tmp 37) 1, type := 4, pos := "exact.go:6872", after := #[{ on := 8, ground := Ground.data }, { on := 12, ground := Ground.gcOnly Departure.lateStores }], guard := none },
      { dst := some 10, op := Op.alloc 61, type := 0, pos := "exact.go:6872", after := #[], guard := none },
      { dst := none, op := Op.store 61 (Operand.tmp 10) (Operand.tmp 46), type := 0, pos := "exact.go:6872", after := #[{ on := 11, ground := Ground.data }, { on := 9, ground := Ground.data }, { on := 7, ground := Ground.chain }, { on := 0, ground := Ground.phase }, { on := 1, ground := Ground.phase }, { on := 2, ground := Ground.phase }, { on := 3, ground := Ground.phase }, { on := 4, ground := Ground.phase }, { on := 5, ground := Ground.phase }, { on := 6, ground := Ground.phase }, { on := 7, ground := Ground.phase }, { on := 8, ground := Ground.phase }, { on := 9, ground := Ground.phase }, { on := 10, ground := Ground.textOnly Departure.lateStores }, { on := 11, ground := Ground.phase }], guard := none },
      { dst := some 11, op := Op.assign (Operand.tmp 47), type := 4, pos := "exact.go:6872", after := #[{ on := 10, ground := Ground.data }, { on := 12, ground := Ground.chain }, { on := 0, ground := Ground.phase }, { on := 1, ground := Ground.phase }, { on := 2, ground := Ground.phase }, { on := 3, ground := Ground.phase }, { on := 4, ground := Ground.phase }, { on := 5, ground := Ground.phase }, { on := 6, ground := Ground.phase }, { on := 7, ground := Ground.phase }, { on := 8, ground := Ground.phase }, { on := 9, ground := Ground.phase }, { on := 10, ground := Ground.phase }, { on := 11, ground := Ground.phase }, { on := 12, ground := Ground.phase }], guard := none }] true).wp Try.prog Q ⟨#[.slice xl nl cl, v1, v2, .int .i64 a3, v4, .pointer (some ⟨p, 0, none⟩), .pointer (some ⟨q, 0, none⟩), v7, v8, v9, v10, v11, v12, v13, v14, v15, v16, v17, v18, v19, v20, v21, v22, v23, v24, v25, v26, v27, v28, v29, v30, v31, v32, v33, v34, v35, v36, v37, v38, v39, v40, v41, v42, v43, v44, v45, v46, v47, v48, v49, v50, v51, v52, v53, v54, v55, v56, v57, v58, v59, v60, v61, v62, v63, v64, v65, v66, v67, v68, v69, v70, v71, v72, v73, v74, v75, v76, v77, v78, v79, v80, v81, v82, v83, v84, v85, v86, v87, v88, v89, v90, v91, v92, v93, v94, v95, v96, v97, v98, v99, v100, v101, v102, v103, v104, v105, v106, v107, v108, v109, v110, v111, v112, v113, v114, v115, v116, v117, v118, v119, v120, v121, v122, v123, v124, v125, v126, v127, v128, v129, v130, v131, v132, v133, v134, v135, v136, v137, v138, v139, v140, v141, v142, v143, v144, v145, v146], []⟩ w := by
  have HQ := Lib.hid hQ; clear hQ
  have hdr : Below w.heap.size w w.drew := (Below.refl _ _).drew
  have BB := Lib.hid hdr
  refine wp_region_noPanic ?_
  refine wp_region_held_drew (S := (fun w' => w'.cell? ⟨p, 0, none⟩ = some (.slice xn nn cn) ∧ w'.cell? ⟨q, 0, none⟩ = some (.slice xk nk ck))) (by kernel_rfl) ?_ (fun hHeld => ?_)
  · exact ⟨kc KN.out BB.out, kc KK.out BB.out⟩
  clear hdr
  generalize w.drew = wd at *
  refine wpAnyH_take (i := 0) (oi := { dst := some 38, op := Op.move (Operand.tmp 0), type := 22, pos := "exact.go:6872", after := #[], guard := none }) (v := ?_) rfl (by kernel_rfl) (by kernel_rfl) (by kernel_rfl) (fun _ _ _ h => h) (Or.inl ⟨by rfl, ?_⟩) (by assumption) ?_
  rotate_left
  · intro w' hSw; (try dsimp only at hSw); first | (go_simp; done) | (go_simp; with_reducible rfl)
  (try simp only [Act.put, List.setIfInBounds_toArray, List.set_cons_zero, List.set_cons_succ])
  refine wpAnyH_take (i := 2) (oi := { dst := some 40, op := Op.load 41 (Operand.tmp 5), type := 41, pos := "exact.go:6872", after := #[], guard := none }) (v := ?_) rfl (by kernel_rfl) (by kernel_rfl) (by kernel_rfl) (fun _ _ _ h => h) (Or.inl ⟨by rfl, ?_⟩) (by assumption) ?_
  rotate_left
  · intro w' hSw; (try dsimp only at hSw); first | (go_simp; done) | (go_simp; with_reducible rfl)
  (try simp only [Act.put, List.setIfInBounds_toArray, List.set_cons_zero, List.set_cons_succ])
  refine wpAnyH_take (i := 4) (oi := { dst := some 42, op := Op.load 41 (Operand.tmp 6), type := 41, pos := "exact.go:6872", after := #[], guard := none }) (v := ?_) rfl (by kernel_rfl) (by kernel_rfl) (by kernel_rfl) (fun _ _ _ h => h) (Or.inl ⟨by rfl, ?_⟩) (by assumption) ?_
  rotate_left
  · intro w' hSw; (try dsimp only at hSw); first | (go_simp; done) | (go_simp; with_reducible rfl)
  (try simp only [Act.put, List.setIfInBounds_toArray, List.set_cons_zero, List.set_cons_succ])
  refine wpAnyH_take (i := 6) (oi := { dst := some 44, op := Op.move (Operand.tmp 3), type := 3, pos := "exact.go:6872", after := #[], guard := none }) (v := ?_) rfl (by kernel_rfl) (by kernel_rfl) (by kernel_rfl) (fun _ _ _ h => h) (Or.inl ⟨by rfl, ?_⟩) (by assumption) ?_
  rotate_left
  · intro w' hSw; (try dsimp only at hSw); first | (go_simp; done) | (go_simp; with_reducible rfl)
  (try simp only [Act.put, List.setIfInBounds_toArray, List.set_cons_zero, List.set_cons_succ])
  refine wpAnyH_ready (rs := [1, 11]) (by kernel_rfl) (by simp) ?_
  refine AllReadyH.cons (o := { dst := some 39, op := Op.call { callee := Callee.value (Operand.func 16), args := #[Operand.tmp 38], argTypes := #[22] }, type := 30, pos := "exact.go:6872", after := #[{ on := 0, ground := Ground.data }], guard := none }) rfl (fun K hK => ?_) ?_
  ·
    go_simp
    refine (Ring.toKK _ l0 _ (H0.out.on BB.out) (by omega)).mono ?_
    rintro e wn1 ⟨v, rfl, ho, hb⟩
    obtain ⟨xA, nA, cA, rfl, ho⟩ := Ring.kK_shape ho
    have HA := Lib.hid ho.at; clear ho
    replace BB := Lib.hid (BB.out.trans (hb.mono BB.out.size))
    clear hb
    (try go_wp2_with fail)
    clear hHeld
    refine hK.out _ _ ?_ (fun hHeld => ?_)
    · (try dsimp only); exact ⟨kc KN.out BB.out, kc KK.out BB.out⟩
    clear hK K
    (try simp only [Act.put, List.setIfInBounds_toArray, List.set_cons_zero, List.set_cons_succ])
    refine wpAnyH_ready (rs := [3, 11]) (by kernel_rfl) (by simp) ?_
    refine AllReadyH.cons (o := { dst := some 41, op := Op.call { callee := Callee.value (Operand.func 17), args := #[Operand.tmp 40], argTypes := #[41] }, type := 47, pos := "exact.go:6872", after := #[{ on := 2, ground := Ground.data }, { on := 1, ground := Ground.chain }], guard := none }) rfl (fun K hK => ?_) ?_
    ·
      go_simp
      refine (toNK _ l1 _ (H1.out.on BB.out) (by have := Row.bulk_len l1; omega)).mono ?_
      rintro e wn2 ⟨v, rfl, ho, hb⟩
      obtain ⟨xB, nB, cB, rfl, ho⟩ := kN_shape ho
      have HBk := Lib.hid ho.at; clear ho
      replace HA := Lib.hid (HA.out.on hb)
      replace BB := Lib.hid (BB.out.trans (hb.mono BB.out.size))
      clear hb
      (try go_wp2_with fail)
      clear hHeld
      refine hK.out _ _ ?_ (fun hHeld => ?_)
      · (try dsimp only); exact ⟨kc KN.out BB.out, kc KK.out BB.out⟩
      clear hK K
      (try simp only [Act.put, List.setIfInBounds_toArray, List.set_cons_zero, List.set_cons_succ])
      refine wpAnyH_ready (rs := [5, 11]) (by kernel_rfl) (by simp) ?_
      refine AllReadyH.cons (o := { dst := some 43, op := Op.call { callee := Callee.value (Operand.func 17), args := #[Operand.tmp 42], argTypes := #[41] }, type := 47, pos := "exact.go:6872", after := #[{ on := 4, ground := Ground.data }, { on := 3, ground := Ground.chain }], guard := none }) rfl (fun K hK => ?_) ?_
      ·
        go_simp
        refine (toNK _ l2 _ (H2.out.on BB.out) (by have := Row.bulk_len l2; omega)).mono ?_
        rintro e wn3 ⟨v, rfl, ho, hb⟩
        obtain ⟨xC, nC, cC, rfl, ho⟩ := kN_shape ho
        have HC := Lib.hid ho.at; clear ho
        replace HA := Lib.hid (HA.out.on hb)
        replace HBk := Lib.hid (HBk.out.on hb)
        replace BB := Lib.hid (BB.out.trans (hb.mono BB.out.size))
        clear hb
        (try go_wp2_with fail)
        clear hHeld
        refine hK.out _ _ ?_ (fun hHeld => ?_)
        · (try dsimp only); exact ⟨kc KN.out BB.out, kc KK.out BB.out⟩
        clear hK K
        (try simp only [Act.put, List.setIfInBounds_toArray, List.set_cons_zero, List.set_cons_succ])
        refine wpAnyH_ready (rs := [7, 11]) (by kernel_rfl) (by simp) ?_
        refine AllReadyH.cons (o := { dst := some 45, op := Op.call { callee := Callee.value (Operand.func 30), args := #[Operand.tmp 39, Operand.tmp 41, Operand.tmp 43, Operand.tmp 44], argTypes := #[30, 47, 47, 3] }, type := 62, pos := "exact.go:6872", after := #[{ on := 1, ground := Ground.data }, { on := 3, ground := Ground.data }, { on := 5, ground := Ground.data }, { on := 6, ground := Ground.data }, { on := 5, ground := Ground.chain }], guard := none }) rfl (fun K hK => ?_) ?_
        ·
          go_simp
          refine (specIssueCertificate _ _ _ l0 l1 l2 a3 _ HA.out HBk.out HC.out (by omega) (by omega) (by omega)).mono ?_
          rintro e wn4 ⟨v, rfl, ho, hb⟩
          obtain ⟨ya, ma, da, yb, mb, db, yc, mc, dc_, rfl, ho⟩ := kD_shape ho
          have HX := Lib.hid (show kD.In w.heap.size wn4.heap.size wn4 (.agg #[.slice ya ma da, .slice yb mb db, .slice yc mc dc_, .int .i64 (Ring.sgK l0 l2 l1 (digK l0 l1) a3).2.2.2.1, .int .i64 (Ring.sgK l0 l2 l1 (digK l0 l1) a3).2.2.2.2]) (Ring.sgK l0 l2 l1 (digK l0 l1) a3) from Kd.In.mono ho BB.out.size (Nat.le_refl _)); clear ho
          replace HA := Lib.hid (HA.out.on hb)
          replace HBk := Lib.hid (HBk.out.on hb)
          replace HC := Lib.hid (HC.out.on hb)
          replace BB := Lib.hid (BB.out.trans (hb.mono BB.out.size))
          clear hb
          (try go_wp2_with fail)
          clear hHeld
          refine hK.out _ _ ?_ (fun hHeld => ?_)
          · (try dsimp only); exact ⟨kc KN.out BB.out, kc KK.out BB.out⟩
          clear hK K
          (try simp only [Act.put, List.setIfInBounds_toArray, List.set_cons_zero, List.set_cons_succ])
          refine wpAnyH_take (i := 8) (oi := { dst := some 37, op := Op.move (Operand.tmp 45), type := 62, pos := "exact.go:6872", after := #[{ on := 7, ground := Ground.data }], guard := none }) (v := ?_) rfl (by kernel_rfl) (by kernel_rfl) (by kernel_rfl) (fun _ _ _ h => h) (Or.inl ⟨by rfl, ?_⟩) (by assumption) ?_
          rotate_left
          · intro w' hSw; (try dsimp only at hSw); first | (go_simp; done) | (go_simp; with_reducible rfl)
          (try simp only [Act.put, List.setIfInBounds_toArray, List.set_cons_zero, List.set_cons_succ])
          refine wpAnyH_take (i := 9) (oi := { dst := some 46, op := Op.extract (Operand.tmp 37) 0, type := 61, pos := "exact.go:6872", after := #[{ on := 8, ground := Ground.data }], guard := none }) (v := ?_) rfl (by kernel_rfl) (by kernel_rfl) (by kernel_rfl) (fun _ _ _ h => h) (Or.inl ⟨by rfl, ?_⟩) (by assumption) ?_
          rotate_left
          · intro w' hSw; (try dsimp only at hSw); first | (go_simp; done) | (go_simp; with_reducible rfl)
          (try simp only [Act.put, List.setIfInBounds_toArray, List.set_cons_zero, List.set_cons_succ])
          refine wpAnyH_take (i := 10) (oi := { dst := some 47, op := Op.extract (Operand.tmp 37) 1, type := 4, pos := "exact.go:6872", after := #[{ on := 8, ground := Ground.data }, { on := 12, ground := Ground.gcOnly Departure.lateStores }], guard := none }) (v := ?_) rfl (by kernel_rfl) (by kernel_rfl) (by kernel_rfl) (fun _ _ _ h => h) (Or.inl ⟨by rfl, ?_⟩) (by assumption) ?_
          rotate_left
          · intro w' hSw; (try dsimp only at hSw); first | (go_simp; done) | (go_simp; with_reducible rfl)
          (try simp only [Act.put, List.setIfInBounds_toArray, List.set_cons_zero, List.set_cons_succ])
          refine wpAnyH_ready (rs := [11]) (by kernel_rfl) (by simp) ?_
          refine AllReadyH.cons (o := { dst := some 10, op := Op.alloc 61, type := 0, pos := "exact.go:6872", after := #[], guard := none }) rfl (fun K hK => ?_) AllReadyH.nil
          go_simp
          have hb : Below wn4.heap.size wn4 (wn4.alloc (.cells #[.slice none 0 0, .slice none 0 0, .slice none 0 0, .int .i64 0, .int .i64 0] 61)) := (Below.refl _ _).alloc (Nat.le_refl _) _
          obtain ⟨gD, hgD⟩ : ∃ g, g = wn4.heap.size := ⟨_, rfl⟩
          have XD := Lib.hid (show Ret.Blk (wn4.alloc (.cells #[.slice none 0 0, .slice none 0 0, .slice none 0 0, .int .i64 0, .int .i64 0] 61)) gD (dc (.slice none 0 0) (.slice none 0 0) (.slice none 0 0) 0 0) 61 from by rw [hgD]; exact Ret.Blk.new wn4 _ _)
          have HDW := Lib.hid (show w.heap.size ≤ gD from by rw [hgD]; exact BB.out.size)
          (first | replace HX := Lib.hid (show kD.In w.heap.size (wn4.alloc (.cells #[.slice none 0 0, .slice none 0 0, .slice none 0 0, .int .i64 0, .int .i64 0] 61)).heap.size (wn4.alloc (.cells #[.slice none 0 0, .slice none 0 0, .slice none 0 0, .int .i64 0, .int .i64 0] 61)) (.agg #[.slice ya ma da, .slice yb mb db, .slice yc mc dc_, .int .i64 (Ring.sgK l0 l2 l1 (digK l0 l1) a3).2.2.2.1, .int .i64 (Ring.sgK l0 l2 l1 (digK l0 l1) a3).2.2.2.2]) (Ring.sgK l0 l2 l1 (digK l0 l1) a3) from Kd.In.mono (Kd.In.on HX.out hb) (Nat.le_refl _) hb.size) | skip)
          rw [← hgD]
          clear hgD
          replace HA := Lib.hid (HA.out.on hb)
          replace HBk := Lib.hid (HBk.out.on hb)
          replace HC := Lib.hid (HC.out.on hb)
          replace BB := Lib.hid (BB.out.trans (hb.mono BB.out.size))
          clear hb
          generalize wn4.alloc (.cells #[.slice none 0 0, .slice none 0 0, .slice none 0 0, .int .i64 0, .int .i64 0] 61) = wn5 at *
          clear hHeld
          refine hK.out _ _ ?_ (fun hHeld => ?_)
          · (try dsimp only); exact ⟨kc KN.out BB.out, kc KK.out BB.out⟩
          clear hK K
          (try simp only [Act.put, List.setIfInBounds_toArray, List.set_cons_zero, List.set_cons_succ])
          refine wpAnyH_ready (rs := [12]) (by kernel_rfl) (by simp) ?_
          refine AllReadyH.cons (o := { dst := none, op := Op.store 61 (Operand.tmp 10) (Operand.tmp 46), type := 0, pos := "exact.go:6872", after := #[{ on := 11, ground := Ground.data }, { on := 9, ground := Ground.data }, { on := 7, ground := Ground.chain }, { on := 0, ground := Ground.phase }, { on := 1, ground := Ground.phase }, { on := 2, ground := Ground.phase }, { on := 3, ground := Ground.phase }, { on := 4, ground := Ground.phase }, { on := 5, ground := Ground.phase }, { on := 6, ground := Ground.phase }, { on := 7, ground := Ground.phase }, { on := 8, ground := Ground.phase }, { on := 9, ground := Ground.phase }, { on := 10, ground := Ground.textOnly Departure.lateStores }, { on := 11, ground := Ground.phase }], guard := none }) rfl (fun K hK => ?_) AllReadyH.nil
          obtain ⟨r0, r1, r2, r3, r4⟩ := cells5_11 XD.out
          obtain ⟨t0, t1, t2, t3, t4⟩ := froz5_11 XD.out
          go_simp
          clear hHeld
          refine hK.out _ _ ?_ (fun hHeld => ?_)
          · (try dsimp only); exact ⟨cell_five11 (kc KN.out BB.out) (by have h1 : p < w.heap.size := cell_lt KN.out; have h2 := HDW.out; omega), cell_five11 (kc KK.out BB.out) (by have h1 : q < w.heap.size := cell_lt KK.out; have h2 := HDW.out; omega)⟩
          clear hK K
          (try simp only [Act.put, List.setIfInBounds_toArray, List.set_cons_zero, List.set_cons_succ])
          refine wpAnyH_take (i := 13) (oi := { dst := some 11, op := Op.assign (Operand.tmp 47), type := 4, pos := "exact.go:6872", after := #[{ on := 10, ground := Ground.data }, { on := 12, ground := Ground.chain }, { on := 0, ground := Ground.phase }, { on := 1, ground := Ground.phase }, { on := 2, ground := Ground.phase }, { on := 3, ground := Ground.phase }, { on := 4, ground := Ground.phase }, { on := 5, ground := Ground.phase }, { on := 6, ground := Ground.phase }, { on := 7, ground := Ground.phase }, { on := 8, ground := Ground.phase }, { on := 9, ground := Ground.phase }, { on := 10, ground := Ground.phase }, { on := 11, ground := Ground.phase }, { on := 12, ground := Ground.phase }], guard := none }) (v := ?_) rfl (by kernel_rfl) (by kernel_rfl) (by kernel_rfl) (fun _ _ _ h => h) (Or.inl ⟨by rfl, ?_⟩) (by assumption) ?_
          rotate_left
          · intro w' hSw; (try dsimp only at hSw); first | (go_simp; done) | (go_simp; with_reducible rfl)
          (try simp only [Act.put, List.setIfInBounds_toArray, List.set_cons_zero, List.set_cons_succ])
          refine wpAnyH_done (by kernel_rfl) ?_ _
          exact NoPanic.normal (HQ.out _ _ _ _ _ _ _ _ _ _ _ gD ma da mb db mc dc_ ya yb yc _ HDW.out XD.out HX.out BB.out)
        refine AllReadyH.cons (o := { dst := some 10, op := Op.alloc 61, type := 0, pos := "exact.go:6872", after := #[], guard := none }) rfl (fun K hK => ?_) AllReadyH.nil
        go_simp
        have hb : Below wn3.heap.size wn3 (wn3.alloc (.cells #[.slice none 0 0, .slice none 0 0, .slice none 0 0, .int .i64 0, .int .i64 0] 61)) := (Below.refl _ _).alloc (Nat.le_refl _) _
        obtain ⟨gD, hgD⟩ : ∃ g, g = wn3.heap.size := ⟨_, rfl⟩
        have XD := Lib.hid (show Ret.Blk (wn3.alloc (.cells #[.slice none 0 0, .slice none 0 0, .slice none 0 0, .int .i64 0, .int .i64 0] 61)) gD (dc (.slice none 0 0) (.slice none 0 0) (.slice none 0 0) 0 0) 61 from by rw [hgD]; exact Ret.Blk.new wn3 _ _)
        have HDW := Lib.hid (show w.heap.size ≤ gD from by rw [hgD]; exact BB.out.size)
        (first | replace HX := Lib.hid (show kD.In w.heap.size (wn3.alloc (.cells #[.slice none 0 0, .slice none 0 0, .slice none 0 0, .int .i64 0, .int .i64 0] 61)).heap.size (wn3.alloc (.cells #[.slice none 0 0, .slice none 0 0, .slice none 0 0, .int .i64 0, .int .i64 0] 61)) (.agg #[.slice ya ma da, .slice yb mb db, .slice yc mc dc_, .int .i64 (Ring.sgK l0 l2 l1 (digK l0 l1) a3).2.2.2.1, .int .i64 (Ring.sgK l0 l2 l1 (digK l0 l1) a3).2.2.2.2]) (Ring.sgK l0 l2 l1 (digK l0 l1) a3) from Kd.In.mono (Kd.In.on HX.out hb) (Nat.le_refl _) hb.size) | skip)
        rw [← hgD]
        clear hgD
        replace HA := Lib.hid (HA.out.on hb)
        replace HBk := Lib.hid (HBk.out.on hb)
        replace HC := Lib.hid (HC.out.on hb)
        replace BB := Lib.hid (BB.out.trans (hb.mono BB.out.size))
        clear hb
        generalize wn3.alloc (.cells #[.slice none 0 0, .slice none 0 0, .slice none 0 0, .int .i64 0, .int .i64 0] 61) = wn7 at *
        clear hHeld
        refine hK.out _ _ ?_ (fun hHeld => ?_)
        · (try dsimp only); exact ⟨kc KN.out BB.out, kc KK.out BB.out⟩
        clear hK K
        (try simp only [Act.put, List.setIfInBounds_toArray, List.set_cons_zero, List.set_cons_succ])
        refine wpAnyH_ready (rs := [7]) (by kernel_rfl) (by simp) ?_
        refine AllReadyH.cons (o := { dst := some 45, op := Op.call { callee := Callee.value (Operand.func 30), args := #[Operand.tmp 39, Operand.tmp 41, Operand.tmp 43, Operand.tmp 44], argTypes := #[30, 47, 47, 3] }, type := 62, pos := "exact.go:6872", after := #[{ on := 1, ground := Ground.data }, { on := 3, ground := Ground.data }, { on := 5, ground := Ground.data }, { on := 6, ground := Ground.data }, { on := 5, ground := Ground.chain }], guard := none }) rfl (fun K hK => ?_) AllReadyH.nil
        go_simp
        refine (specIssueCertificate _ _ _ l0 l1 l2 a3 _ HA.out HBk.out HC.out (by omega) (by omega) (by omega)).mono ?_
        rintro e wn8 ⟨v, rfl, ho, hb⟩
        obtain ⟨ya, ma, da, yb, mb, db, yc, mc, dc_, rfl, ho⟩ := kD_shape ho
        have HX := Lib.hid (show kD.In w.heap.size wn8.heap.size wn8 (.agg #[.slice ya ma da, .slice yb mb db, .slice yc mc dc_, .int .i64 (Ring.sgK l0 l2 l1 (digK l0 l1) a3).2.2.2.1, .int .i64 (Ring.sgK l0 l2 l1 (digK l0 l1) a3).2.2.2.2]) (Ring.sgK l0 l2 l1 (digK l0 l1) a3) from Kd.In.mono ho BB.out.size (Nat.le_refl _)); clear ho
        replace HA := Lib.hid (HA.out.on hb)
        replace HBk := Lib.hid (HBk.out.on hb)
        replace HC := Lib.hid (HC.out.on hb)
        replace XD := Lib.hid (XD.out.on hb)
        replace BB := Lib.hid (BB.out.trans (hb.mono BB.out.size))
        clear hb
        (try go_wp2_with fail)
        clear hHeld
        refine hK.out _ _ ?_ (fun hHeld => ?_)
        · (try dsimp only); exact ⟨kc KN.out BB.out, kc KK.out BB.out⟩
        clear hK K
        (try simp only [Act.put, List.setIfInBounds_toArray, List.set_cons_zero, List.set_cons_succ])
        refine wpAnyH_take (i := 8) (oi := { dst := some 37, op := Op.move (Operand.tmp 45), type := 62, pos := "exact.go:6872", after := #[{ on := 7, ground := Ground.data }], guard := none }) (v := ?_) rfl (by kernel_rfl) (by kernel_rfl) (by kernel_rfl) (fun _ _ _ h => h) (Or.inl ⟨by rfl, ?_⟩) (by assumption) ?_
        rotate_left
        · intro w' hSw; (try dsimp only at hSw); first | (go_simp; done) | (go_simp; with_reducible rfl)
        (try simp only [Act.put, List.setIfInBounds_toArray, List.set_cons_zero, List.set_cons_succ])
        refine wpAnyH_take (i := 9) (oi := { dst := some 46, op := Op.extract (Operand.tmp 37) 0, type := 61, pos := "exact.go:6872", after := #[{ on := 8, ground := Ground.data }], guard := none }) (v := ?_) rfl (by kernel_rfl) (by kernel_rfl) (by kernel_rfl) (fun _ _ _ h => h) (Or.inl ⟨by rfl, ?_⟩) (by assumption) ?_
        rotate_left
        · intro w' hSw; (try dsimp only at hSw); first | (go_simp; done) | (go_simp; with_reducible rfl)
        (try simp only [Act.put, List.setIfInBounds_toArray, List.set_cons_zero, List.set_cons_succ])
        refine wpAnyH_take (i := 10) (oi := { dst := some 47, op := Op.extract (Operand.tmp 37) 1, type := 4, pos := "exact.go:6872", after := #[{ on := 8, ground := Ground.data }, { on := 12, ground := Ground.gcOnly Departure.lateStores }], guard := none }) (v := ?_) rfl (by kernel_rfl) (by kernel_rfl) (by kernel_rfl) (fun _ _ _ h => h) (Or.inl ⟨by rfl, ?_⟩) (by assumption) ?_
        rotate_left
        · intro w' hSw; (try dsimp only at hSw); first | (go_simp; done) | (go_simp; with_reducible rfl)
        (try simp only [Act.put, List.setIfInBounds_toArray, List.set_cons_zero, List.set_cons_succ])
        refine wpAnyH_ready (rs := [12]) (by kernel_rfl) (by simp) ?_
        refine AllReadyH.cons (o := { dst := none, op := Op.store 61 (Operand.tmp 10) (Operand.tmp 46), type := 0, pos := "exact.go:6872", after := #[{ on := 11, ground := Ground.data }, { on := 9, ground := Ground.data }, { on := 7, ground := Ground.chain }, { on := 0, ground := Ground.phase }, { on := 1, ground := Ground.phase }, { on := 2, ground := Ground.phase }, { on := 3, ground := Ground.phase }, { on := 4, ground := Ground.phase }, { on := 5, ground := Ground.phase }, { on := 6, ground := Ground.phase }, { on := 7, ground := Ground.phase }, { on := 8, ground := Ground.phase }, { on := 9, ground := Ground.phase }, { on := 10, ground := Ground.textOnly Departure.lateStores }, { on := 11, ground := Ground.phase }], guard := none }) rfl (fun K hK => ?_) AllReadyH.nil
        obtain ⟨r0, r1, r2, r3, r4⟩ := cells5_11 XD.out
        obtain ⟨t0, t1, t2, t3, t4⟩ := froz5_11 XD.out
        go_simp
        clear hHeld
        refine hK.out _ _ ?_ (fun hHeld => ?_)
        · (try dsimp only); exact ⟨cell_five11 (kc KN.out BB.out) (by have h1 : p < w.heap.size := cell_lt KN.out; have h2 := HDW.out; omega), cell_five11 (kc KK.out BB.out) (by have h1 : q < w.heap.size := cell_lt KK.out; have h2 := HDW.out; omega)⟩
        clear hK K
        (try simp only [Act.put, List.setIfInBounds_toArray, List.set_cons_zero, List.set_cons_succ])
        refine wpAnyH_take (i := 13) (oi := { dst := some 11, op := Op.assign (Operand.tmp 47), type := 4, pos := "exact.go:6872", after := #[{ on := 10, ground := Ground.data }, { on := 12, ground := Ground.chain }, { on := 0, ground := Ground.phase }, { on := 1, ground := Ground.phase }, { on := 2, ground := Ground.phase }, { on := 3, ground := Ground.phase }, { on := 4, ground := Ground.phase }, { on := 5, ground := Ground.phase }, { on := 6, ground := Ground.phase }, { on := 7, ground := Ground.phase }, { on := 8, ground := Ground.phase }, { on := 9, ground := Ground.phase }, { on := 10, ground := Ground.phase }, { on := 11, ground := Ground.phase }, { on := 12, ground := Ground.phase }], guard := none }) (v := ?_) rfl (by kernel_rfl) (by kernel_rfl) (by kernel_rfl) (fun _ _ _ h => h) (Or.inl ⟨by rfl, ?_⟩) (by assumption) ?_
        rotate_left
        · intro w' hSw; (try dsimp only at hSw); first | (go_simp; done) | (go_simp; with_reducible rfl)
        (try simp only [Act.put, List.setIfInBounds_toArray, List.set_cons_zero, List.set_cons_succ])
        refine wpAnyH_done (by kernel_rfl) ?_ _
        exact NoPanic.normal (HQ.out _ _ _ _ _ _ _ _ _ _ _ gD ma da mb db mc dc_ ya yb yc _ HDW.out XD.out HX.out BB.out)
      refine AllReadyH.cons (o := { dst := some 10, op := Op.alloc 61, type := 0, pos := "exact.go:6872", after := #[], guard := none }) rfl (fun K hK => ?_) AllReadyH.nil
      go_simp
      have hb : Below wn2.heap.size wn2 (wn2.alloc (.cells #[.slice none 0 0, .slice none 0 0, .slice none 0 0, .int .i64 0, .int .i64 0] 61)) := (Below.refl _ _).alloc (Nat.le_refl _) _
      obtain ⟨gD, hgD⟩ : ∃ g, g = wn2.heap.size := ⟨_, rfl⟩
      have XD := Lib.hid (show Ret.Blk (wn2.alloc (.cells #[.slice none 0 0, .slice none 0 0, .slice none 0 0, .int .i64 0, .int .i64 0] 61)) gD (dc (.slice none 0 0) (.slice none 0 0) (.slice none 0 0) 0 0) 61 from by rw [hgD]; exact Ret.Blk.new wn2 _ _)
      have HDW := Lib.hid (show w.heap.size ≤ gD from by rw [hgD]; exact BB.out.size)
      (first | replace HX := Lib.hid (show kD.In w.heap.size (wn2.alloc (.cells #[.slice none 0 0, .slice none 0 0, .slice none 0 0, .int .i64 0, .int .i64 0] 61)).heap.size (wn2.alloc (.cells #[.slice none 0 0, .slice none 0 0, .slice none 0 0, .int .i64 0, .int .i64 0] 61)) (.agg #[.slice ya ma da, .slice yb mb db, .slice yc mc dc_, .int .i64 (Ring.sgK l0 l2 l1 (digK l0 l1) a3).2.2.2.1, .int .i64 (Ring.sgK l0 l2 l1 (digK l0 l1) a3).2.2.2.2]) (Ring.sgK l0 l2 l1 (digK l0 l1) a3) from Kd.In.mono (Kd.In.on HX.out hb) (Nat.le_refl _) hb.size) | skip)
      rw [← hgD]
      clear hgD
      replace HA := Lib.hid (HA.out.on hb)
      replace HBk := Lib.hid (HBk.out.on hb)
      replace BB := Lib.hid (BB.out.trans (hb.mono BB.out.size))
      clear hb
      generalize wn2.alloc (.cells #[.slice none 0 0, .slice none 0 0, .slice none 0 0, .int .i64 0, .int .i64 0] 61) = wn10 at *
      clear hHeld
      refine hK.out _ _ ?_ (fun hHeld => ?_)
      · (try dsimp only); exact ⟨kc KN.out BB.out, kc KK.out BB.out⟩
      clear hK K
      (try simp only [Act.put, List.setIfInBounds_toArray, List.set_cons_zero, List.set_cons_succ])
      refine wpAnyH_ready (rs := [5]) (by kernel_rfl) (by simp) ?_
      refine AllReadyH.cons (o := { dst := some 43, op := Op.call { callee := Callee.value (Operand.func 17), args := #[Operand.tmp 42], argTypes := #[41] }, type := 47, pos := "exact.go:6872", after := #[{ on := 4, ground := Ground.data }, { on := 3, ground := Ground.chain }], guard := none }) rfl (fun K hK => ?_) AllReadyH.nil
      go_simp
      refine (toNK _ l2 _ (H2.out.on BB.out) (by have := Row.bulk_len l2; omega)).mono ?_
      rintro e wn11 ⟨v, rfl, ho, hb⟩
      obtain ⟨xC, nC, cC, rfl, ho⟩ := kN_shape ho
      have HC := Lib.hid ho.at; clear ho
      replace HA := Lib.hid (HA.out.on hb)
      replace HBk := Lib.hid (HBk.out.on hb)
      replace XD := Lib.hid (XD.out.on hb)
      replace BB := Lib.hid (BB.out.trans (hb.mono BB.out.size))
      clear hb
      (try go_wp2_with fail)
      clear hHeld
      refine hK.out _ _ ?_ (fun hHeld => ?_)
      · (try dsimp only); exact ⟨kc KN.out BB.out, kc KK.out BB.out⟩
      clear hK K
      (try simp only [Act.put, List.setIfInBounds_toArray, List.set_cons_zero, List.set_cons_succ])
      refine wpAnyH_ready (rs := [7]) (by kernel_rfl) (by simp) ?_
      refine AllReadyH.cons (o := { dst := some 45, op := Op.call { callee := Callee.value (Operand.func 30), args := #[Operand.tmp 39, Operand.tmp 41, Operand.tmp 43, Operand.tmp 44], argTypes := #[30, 47, 47, 3] }, type := 62, pos := "exact.go:6872", after := #[{ on := 1, ground := Ground.data }, { on := 3, ground := Ground.data }, { on := 5, ground := Ground.data }, { on := 6, ground := Ground.data }, { on := 5, ground := Ground.chain }], guard := none }) rfl (fun K hK => ?_) AllReadyH.nil
      go_simp
      refine (specIssueCertificate _ _ _ l0 l1 l2 a3 _ HA.out HBk.out HC.out (by omega) (by omega) (by omega)).mono ?_
      rintro e wn12 ⟨v, rfl, ho, hb⟩
      obtain ⟨ya, ma, da, yb, mb, db, yc, mc, dc_, rfl, ho⟩ := kD_shape ho
      have HX := Lib.hid (show kD.In w.heap.size wn12.heap.size wn12 (.agg #[.slice ya ma da, .slice yb mb db, .slice yc mc dc_, .int .i64 (Ring.sgK l0 l2 l1 (digK l0 l1) a3).2.2.2.1, .int .i64 (Ring.sgK l0 l2 l1 (digK l0 l1) a3).2.2.2.2]) (Ring.sgK l0 l2 l1 (digK l0 l1) a3) from Kd.In.mono ho BB.out.size (Nat.le_refl _)); clear ho
      replace HA := Lib.hid (HA.out.on hb)
      replace HBk := Lib.hid (HBk.out.on hb)
      replace XD := Lib.hid (XD.out.on hb)
      replace HC := Lib.hid (HC.out.on hb)
      replace BB := Lib.hid (BB.out.trans (hb.mono BB.out.size))
      clear hb
      (try go_wp2_with fail)
      clear hHeld
      refine hK.out _ _ ?_ (fun hHeld => ?_)
      · (try dsimp only); exact ⟨kc KN.out BB.out, kc KK.out BB.out⟩
      clear hK K
      (try simp only [Act.put, List.setIfInBounds_toArray, List.set_cons_zero, List.set_cons_succ])
      refine wpAnyH_take (i := 8) (oi := { dst := some 37, op := Op.move (Operand.tmp 45), type := 62, pos := "exact.go:6872", after := #[{ on := 7, ground := Ground.data }], guard := none }) (v := ?_) rfl (by kernel_rfl) (by kernel_rfl) (by kernel_rfl) (fun _ _ _ h => h) (Or.inl ⟨by rfl, ?_⟩) (by assumption) ?_
      rotate_left
      · intro w' hSw; (try dsimp only at hSw); first | (go_simp; done) | (go_simp; with_reducible rfl)
      (try simp only [Act.put, List.setIfInBounds_toArray, List.set_cons_zero, List.set_cons_succ])
      refine wpAnyH_take (i := 9) (oi := { dst := some 46, op := Op.extract (Operand.tmp 37) 0, type := 61, pos := "exact.go:6872", after := #[{ on := 8, ground := Ground.data }], guard := none }) (v := ?_) rfl (by kernel_rfl) (by kernel_rfl) (by kernel_rfl) (fun _ _ _ h => h) (Or.inl ⟨by rfl, ?_⟩) (by assumption) ?_
      rotate_left
      · intro w' hSw; (try dsimp only at hSw); first | (go_simp; done) | (go_simp; with_reducible rfl)
      (try simp only [Act.put, List.setIfInBounds_toArray, List.set_cons_zero, List.set_cons_succ])
      refine wpAnyH_take (i := 10) (oi := { dst := some 47, op := Op.extract (Operand.tmp 37) 1, type := 4, pos := "exact.go:6872", after := #[{ on := 8, ground := Ground.data }, { on := 12, ground := Ground.gcOnly Departure.lateStores }], guard := none }) (v := ?_) rfl (by kernel_rfl) (by kernel_rfl) (by kernel_rfl) (fun _ _ _ h => h) (Or.inl ⟨by rfl, ?_⟩) (by assumption) ?_
      rotate_left
      · intro w' hSw; (try dsimp only at hSw); first | (go_simp; done) | (go_simp; with_reducible rfl)
      (try simp only [Act.put, List.setIfInBounds_toArray, List.set_cons_zero, List.set_cons_succ])
      refine wpAnyH_ready (rs := [12]) (by kernel_rfl) (by simp) ?_
      refine AllReadyH.cons (o := { dst := none, op := Op.store 61 (Operand.tmp 10) (Operand.tmp 46), type := 0, pos := "exact.go:6872", after := #[{ on := 11, ground := Ground.data }, { on := 9, ground := Ground.data }, { on := 7, ground := Ground.chain }, { on := 0, ground := Ground.phase }, { on := 1, ground := Ground.phase }, { on := 2, ground := Ground.phase }, { on := 3, ground := Ground.phase }, { on := 4, ground := Ground.phase }, { on := 5, ground := Ground.phase }, { on := 6, ground := Ground.phase }, { on := 7, ground := Ground.phase }, { on := 8, ground := Ground.phase }, { on := 9, ground := Ground.phase }, { on := 10, ground := Ground.textOnly Departure.lateStores }, { on := 11, ground := Ground.phase }], guard := none }) rfl (fun K hK => ?_) AllReadyH.nil
      obtain ⟨r0, r1, r2, r3, r4⟩ := cells5_11 XD.out
      obtain ⟨t0, t1, t2, t3, t4⟩ := froz5_11 XD.out
      go_simp
      clear hHeld
      refine hK.out _ _ ?_ (fun hHeld => ?_)
      · (try dsimp only); exact ⟨cell_five11 (kc KN.out BB.out) (by have h1 : p < w.heap.size := cell_lt KN.out; have h2 := HDW.out; omega), cell_five11 (kc KK.out BB.out) (by have h1 : q < w.heap.size := cell_lt KK.out; have h2 := HDW.out; omega)⟩
      clear hK K
      (try simp only [Act.put, List.setIfInBounds_toArray, List.set_cons_zero, List.set_cons_succ])
      refine wpAnyH_take (i := 13) (oi := { dst := some 11, op := Op.assign (Operand.tmp 47), type := 4, pos := "exact.go:6872", after := #[{ on := 10, ground := Ground.data }, { on := 12, ground := Ground.chain }, { on := 0, ground := Ground.phase }, { on := 1, ground := Ground.phase }, { on := 2, ground := Ground.phase }, { on := 3, ground := Ground.phase }, { on := 4, ground := Ground.phase }, { on := 5, ground := Ground.phase }, { on := 6, ground := Ground.phase }, { on := 7, ground := Ground.phase }, { on := 8, ground := Ground.phase }, { on := 9, ground := Ground.phase }, { on := 10, ground := Ground.phase }, { on := 11, ground := Ground.phase }, { on := 12, ground := Ground.phase }], guard := none }) (v := ?_) rfl (by kernel_rfl) (by kernel_rfl) (by kernel_rfl) (fun _ _ _ h => h) (Or.inl ⟨by rfl, ?_⟩) (by assumption) ?_
      rotate_left
      · intro w' hSw; (try dsimp only at hSw); first | (go_simp; done) | (go_simp; with_reducible rfl)
      (try simp only [Act.put, List.setIfInBounds_toArray, List.set_cons_zero, List.set_cons_succ])
      refine wpAnyH_done (by kernel_rfl) ?_ _
      exact NoPanic.normal (HQ.out _ _ _ _ _ _ _ _ _ _ _ gD ma da mb db mc dc_ ya yb yc _ HDW.out XD.out HX.out BB.out)
    refine AllReadyH.cons (o := { dst := some 10, op := Op.alloc 61, type := 0, pos := "exact.go:6872", after := #[], guard := none }) rfl (fun K hK => ?_) AllReadyH.nil
    go_simp
    have hb : Below wn1.heap.size wn1 (wn1.alloc (.cells #[.slice none 0 0, .slice none 0 0, .slice none 0 0, .int .i64 0, .int .i64 0] 61)) := (Below.refl _ _).alloc (Nat.le_refl _) _
    obtain ⟨gD, hgD⟩ : ∃ g, g = wn1.heap.size := ⟨_, rfl⟩
    have XD := Lib.hid (show Ret.Blk (wn1.alloc (.cells #[.slice none 0 0, .slice none 0 0, .slice none 0 0, .int .i64 0, .int .i64 0] 61)) gD (dc (.slice none 0 0) (.slice none 0 0) (.slice none 0 0) 0 0) 61 from by rw [hgD]; exact Ret.Blk.new wn1 _ _)
    have HDW := Lib.hid (show w.heap.size ≤ gD from by rw [hgD]; exact BB.out.size)
    (first | replace HX := Lib.hid (show kD.In w.heap.size (wn1.alloc (.cells #[.slice none 0 0, .slice none 0 0, .slice none 0 0, .int .i64 0, .int .i64 0] 61)).heap.size (wn1.alloc (.cells #[.slice none 0 0, .slice none 0 0, .slice none 0 0, .int .i64 0, .int .i64 0] 61)) (.agg #[.slice ya ma da, .slice yb mb db, .slice yc mc dc_, .int .i64 (Ring.sgK l0 l2 l1 (digK l0 l1) a3).2.2.2.1, .int .i64 (Ring.sgK l0 l2 l1 (digK l0 l1) a3).2.2.2.2]) (Ring.sgK l0 l2 l1 (digK l0 l1) a3) from Kd.In.mono (Kd.In.on HX.out hb) (Nat.le_refl _) hb.size) | skip)
    rw [← hgD]
    clear hgD
    replace HA := Lib.hid (HA.out.on hb)
    replace BB := Lib.hid (BB.out.trans (hb.mono BB.out.size))
    clear hb
    generalize wn1.alloc (.cells #[.slice none 0 0, .slice none 0 0, .slice none 0 0, .int .i64 0, .int .i64 0] 61) = wn14 at *
    clear hHeld
    refine hK.out _ _ ?_ (fun hHeld => ?_)
    · (try dsimp only); exact ⟨kc KN.out BB.out, kc KK.out BB.out⟩
    clear hK K
    (try simp only [Act.put, List.setIfInBounds_toArray, List.set_cons_zero, List.set_cons_succ])
    refine wpAnyH_ready (rs := [3]) (by kernel_rfl) (by simp) ?_
    refine AllReadyH.cons (o := { dst := some 41, op := Op.call { callee := Callee.value (Operand.func 17), args := #[Operand.tmp 40], argTypes := #[41] }, type := 47, pos := "exact.go:6872", after := #[{ on := 2, ground := Ground.data }, { on := 1, ground := Ground.chain }], guard := none }) rfl (fun K hK => ?_) AllReadyH.nil
    go_simp
    refine (toNK _ l1 _ (H1.out.on BB.out) (by have := Row.bulk_len l1; omega)).mono ?_
    rintro e wn15 ⟨v, rfl, ho, hb⟩
    obtain ⟨xB, nB, cB, rfl, ho⟩ := kN_shape ho
    have HBk := Lib.hid ho.at; clear ho
    replace HA := Lib.hid (HA.out.on hb)
    replace XD := Lib.hid (XD.out.on hb)
    replace BB := Lib.hid (BB.out.trans (hb.mono BB.out.size))
    clear hb
    (try go_wp2_with fail)
    clear hHeld
    refine hK.out _ _ ?_ (fun hHeld => ?_)
    · (try dsimp only); exact ⟨kc KN.out BB.out, kc KK.out BB.out⟩
    clear hK K
    (try simp only [Act.put, List.setIfInBounds_toArray, List.set_cons_zero, List.set_cons_succ])
    refine wpAnyH_ready (rs := [5]) (by kernel_rfl) (by simp) ?_
    refine AllReadyH.cons (o := { dst := some 43, op := Op.call { callee := Callee.value (Operand.func 17), args := #[Operand.tmp 42], argTypes := #[41] }, type := 47, pos := "exact.go:6872", after := #[{ on := 4, ground := Ground.data }, { on := 3, ground := Ground.chain }], guard := none }) rfl (fun K hK => ?_) AllReadyH.nil
    go_simp
    refine (toNK _ l2 _ (H2.out.on BB.out) (by have := Row.bulk_len l2; omega)).mono ?_
    rintro e wn16 ⟨v, rfl, ho, hb⟩
    obtain ⟨xC, nC, cC, rfl, ho⟩ := kN_shape ho
    have HC := Lib.hid ho.at; clear ho
    replace HA := Lib.hid (HA.out.on hb)
    replace XD := Lib.hid (XD.out.on hb)
    replace HBk := Lib.hid (HBk.out.on hb)
    replace BB := Lib.hid (BB.out.trans (hb.mono BB.out.size))
    clear hb
    (try go_wp2_with fail)
    clear hHeld
    refine hK.out _ _ ?_ (fun hHeld => ?_)
    · (try dsimp only); exact ⟨kc KN.out BB.out, kc KK.out BB.out⟩
    clear hK K
    (try simp only [Act.put, List.setIfInBounds_toArray, List.set_cons_zero, List.set_cons_succ])
    refine wpAnyH_ready (rs := [7]) (by kernel_rfl) (by simp) ?_
    refine AllReadyH.cons (o := { dst := some 45, op := Op.call { callee := Callee.value (Operand.func 30), args := #[Operand.tmp 39, Operand.tmp 41, Operand.tmp 43, Operand.tmp 44], argTypes := #[30, 47, 47, 3] }, type := 62, pos := "exact.go:6872", after := #[{ on := 1, ground := Ground.data }, { on := 3, ground := Ground.data }, { on := 5, ground := Ground.data }, { on := 6, ground := Ground.data }, { on := 5, ground := Ground.chain }], guard := none }) rfl (fun K hK => ?_) AllReadyH.nil
    go_simp
    refine (specIssueCertificate _ _ _ l0 l1 l2 a3 _ HA.out HBk.out HC.out (by omega) (by omega) (by omega)).mono ?_
    rintro e wn17 ⟨v, rfl, ho, hb⟩
    obtain ⟨ya, ma, da, yb, mb, db, yc, mc, dc_, rfl, ho⟩ := kD_shape ho
    have HX := Lib.hid (show kD.In w.heap.size wn17.heap.size wn17 (.agg #[.slice ya ma da, .slice yb mb db, .slice yc mc dc_, .int .i64 (Ring.sgK l0 l2 l1 (digK l0 l1) a3).2.2.2.1, .int .i64 (Ring.sgK l0 l2 l1 (digK l0 l1) a3).2.2.2.2]) (Ring.sgK l0 l2 l1 (digK l0 l1) a3) from Kd.In.mono ho BB.out.size (Nat.le_refl _)); clear ho
    replace HA := Lib.hid (HA.out.on hb)
    replace XD := Lib.hid (XD.out.on hb)
    replace HBk := Lib.hid (HBk.out.on hb)
    replace HC := Lib.hid (HC.out.on hb)
    replace BB := Lib.hid (BB.out.trans (hb.mono BB.out.size))
    clear hb
    (try go_wp2_with fail)
    clear hHeld
    refine hK.out _ _ ?_ (fun hHeld => ?_)
    · (try dsimp only); exact ⟨kc KN.out BB.out, kc KK.out BB.out⟩
    clear hK K
    (try simp only [Act.put, List.setIfInBounds_toArray, List.set_cons_zero, List.set_cons_succ])
    refine wpAnyH_take (i := 8) (oi := { dst := some 37, op := Op.move (Operand.tmp 45), type := 62, pos := "exact.go:6872", after := #[{ on := 7, ground := Ground.data }], guard := none }) (v := ?_) rfl (by kernel_rfl) (by kernel_rfl) (by kernel_rfl) (fun _ _ _ h => h) (Or.inl ⟨by rfl, ?_⟩) (by assumption) ?_
    rotate_left
    · intro w' hSw; (try dsimp only at hSw); first | (go_simp; done) | (go_simp; with_reducible rfl)
    (try simp only [Act.put, List.setIfInBounds_toArray, List.set_cons_zero, List.set_cons_succ])
    refine wpAnyH_take (i := 9) (oi := { dst := some 46, op := Op.extract (Operand.tmp 37) 0, type := 61, pos := "exact.go:6872", after := #[{ on := 8, ground := Ground.data }], guard := none }) (v := ?_) rfl (by kernel_rfl) (by kernel_rfl) (by kernel_rfl) (fun _ _ _ h => h) (Or.inl ⟨by rfl, ?_⟩) (by assumption) ?_
    rotate_left
    · intro w' hSw; (try dsimp only at hSw); first | (go_simp; done) | (go_simp; with_reducible rfl)
    (try simp only [Act.put, List.setIfInBounds_toArray, List.set_cons_zero, List.set_cons_succ])
    refine wpAnyH_take (i := 10) (oi := { dst := some 47, op := Op.extract (Operand.tmp 37) 1, type := 4, pos := "exact.go:6872", after := #[{ on := 8, ground := Ground.data }, { on := 12, ground := Ground.gcOnly Departure.lateStores }], guard := none }) (v := ?_) rfl (by kernel_rfl) (by kernel_rfl) (by kernel_rfl) (fun _ _ _ h => h) (Or.inl ⟨by rfl, ?_⟩) (by assumption) ?_
    rotate_left
    · intro w' hSw; (try dsimp only at hSw); first | (go_simp; done) | (go_simp; with_reducible rfl)
    (try simp only [Act.put, List.setIfInBounds_toArray, List.set_cons_zero, List.set_cons_succ])
    refine wpAnyH_ready (rs := [12]) (by kernel_rfl) (by simp) ?_
    refine AllReadyH.cons (o := { dst := none, op := Op.store 61 (Operand.tmp 10) (Operand.tmp 46), type := 0, pos := "exact.go:6872", after := #[{ on := 11, ground := Ground.data }, { on := 9, ground := Ground.data }, { on := 7, ground := Ground.chain }, { on := 0, ground := Ground.phase }, { on := 1, ground := Ground.phase }, { on := 2, ground := Ground.phase }, { on := 3, ground := Ground.phase }, { on := 4, ground := Ground.phase }, { on := 5, ground := Ground.phase }, { on := 6, ground := Ground.phase }, { on := 7, ground := Ground.phase }, { on := 8, ground := Ground.phase }, { on := 9, ground := Ground.phase }, { on := 10, ground := Ground.textOnly Departure.lateStores }, { on := 11, ground := Ground.phase }], guard := none }) rfl (fun K hK => ?_) AllReadyH.nil
    obtain ⟨r0, r1, r2, r3, r4⟩ := cells5_11 XD.out
    obtain ⟨t0, t1, t2, t3, t4⟩ := froz5_11 XD.out
    go_simp
    clear hHeld
    refine hK.out _ _ ?_ (fun hHeld => ?_)
    · (try dsimp only); exact ⟨cell_five11 (kc KN.out BB.out) (by have h1 : p < w.heap.size := cell_lt KN.out; have h2 := HDW.out; omega), cell_five11 (kc KK.out BB.out) (by have h1 : q < w.heap.size := cell_lt KK.out; have h2 := HDW.out; omega)⟩
    clear hK K
    (try simp only [Act.put, List.setIfInBounds_toArray, List.set_cons_zero, List.set_cons_succ])
    refine wpAnyH_take (i := 13) (oi := { dst := some 11, op := Op.assign (Operand.tmp 47), type := 4, pos := "exact.go:6872", after := #[{ on := 10, ground := Ground.data }, { on := 12, ground := Ground.chain }, { on := 0, ground := Ground.phase }, { on := 1, ground := Ground.phase }, { on := 2, ground := Ground.phase }, { on := 3, ground := Ground.phase }, { on := 4, ground := Ground.phase }, { on := 5, ground := Ground.phase }, { on := 6, ground := Ground.phase }, { on := 7, ground := Ground.phase }, { on := 8, ground := Ground.phase }, { on := 9, ground := Ground.phase }, { on := 10, ground := Ground.phase }, { on := 11, ground := Ground.phase }, { on := 12, ground := Ground.phase }], guard := none }) (v := ?_) rfl (by kernel_rfl) (by kernel_rfl) (by kernel_rfl) (fun _ _ _ h => h) (Or.inl ⟨by rfl, ?_⟩) (by assumption) ?_
    rotate_left
    · intro w' hSw; (try dsimp only at hSw); first | (go_simp; done) | (go_simp; with_reducible rfl)
    (try simp only [Act.put, List.setIfInBounds_toArray, List.set_cons_zero, List.set_cons_succ])
    refine wpAnyH_done (by kernel_rfl) ?_ _
    exact NoPanic.normal (HQ.out _ _ _ _ _ _ _ _ _ _ _ gD ma da mb db mc dc_ ya yb yc _ HDW.out XD.out HX.out BB.out)
  refine AllReadyH.cons (o := { dst := some 10, op := Op.alloc 61, type := 0, pos := "exact.go:6872", after := #[], guard := none }) rfl (fun K hK => ?_) AllReadyH.nil
  go_simp
  have hb : Below wd.heap.size wd (wd.alloc (.cells #[.slice none 0 0, .slice none 0 0, .slice none 0 0, .int .i64 0, .int .i64 0] 61)) := (Below.refl _ _).alloc (Nat.le_refl _) _
  obtain ⟨gD, hgD⟩ : ∃ g, g = wd.heap.size := ⟨_, rfl⟩
  have XD := Lib.hid (show Ret.Blk (wd.alloc (.cells #[.slice none 0 0, .slice none 0 0, .slice none 0 0, .int .i64 0, .int .i64 0] 61)) gD (dc (.slice none 0 0) (.slice none 0 0) (.slice none 0 0) 0 0) 61 from by rw [hgD]; exact Ret.Blk.new wd _ _)
  have HDW := Lib.hid (show w.heap.size ≤ gD from by rw [hgD]; exact BB.out.size)
  (first | replace HX := Lib.hid (show kD.In w.heap.size (wd.alloc (.cells #[.slice none 0 0, .slice none 0 0, .slice none 0 0, .int .i64 0, .int .i64 0] 61)).heap.size (wd.alloc (.cells #[.slice none 0 0, .slice none 0 0, .slice none 0 0, .int .i64 0, .int .i64 0] 61)) (.agg #[.slice ya ma da, .slice yb mb db, .slice yc mc dc_, .int .i64 (Ring.sgK l0 l2 l1 (digK l0 l1) a3).2.2.2.1, .int .i64 (Ring.sgK l0 l2 l1 (digK l0 l1) a3).2.2.2.2]) (Ring.sgK l0 l2 l1 (digK l0 l1) a3) from Kd.In.mono (Kd.In.on HX.out hb) (Nat.le_refl _) hb.size) | skip)
  rw [← hgD]
  clear hgD
  replace BB := Lib.hid (BB.out.trans (hb.mono BB.out.size))
  clear hb
  generalize wd.alloc (.cells #[.slice none 0 0, .slice none 0 0, .slice none 0 0, .int .i64 0, .int .i64 0] 61) = wn19 at *
  clear hHeld
  refine hK.out _ _ ?_ (fun hHeld => ?_)
  · (try dsimp only); exact ⟨kc KN.out BB.out, kc KK.out BB.out⟩
  clear hK K
  (try simp only [Act.put, List.setIfInBounds_toArray, List.set_cons_zero, List.set_cons_succ])
  refine wpAnyH_ready (rs := [1]) (by kernel_rfl) (by simp) ?_
  refine AllReadyH.cons (o := { dst := some 39, op := Op.call { callee := Callee.value (Operand.func 16), args := #[Operand.tmp 38], argTypes := #[22] }, type := 30, pos := "exact.go:6872", after := #[{ on := 0, ground := Ground.data }], guard := none }) rfl (fun K hK => ?_) AllReadyH.nil
  go_simp
  refine (Ring.toKK _ l0 _ (H0.out.on BB.out) (by omega)).mono ?_
  rintro e wn20 ⟨v, rfl, ho, hb⟩
  obtain ⟨xA, nA, cA, rfl, ho⟩ := Ring.kK_shape ho
  have HA := Lib.hid ho.at; clear ho
  replace XD := Lib.hid (XD.out.on hb)
  replace BB := Lib.hid (BB.out.trans (hb.mono BB.out.size))
  clear hb
  (try go_wp2_with fail)
  clear hHeld
  refine hK.out _ _ ?_ (fun hHeld => ?_)
  · (try dsimp only); exact ⟨kc KN.out BB.out, kc KK.out BB.out⟩
  clear hK K
  (try simp only [Act.put, List.setIfInBounds_toArray, List.set_cons_zero, List.set_cons_succ])
  refine wpAnyH_ready (rs := [3]) (by kernel_rfl) (by simp) ?_
  refine AllReadyH.cons (o := { dst := some 41, op := Op.call { callee := Callee.value (Operand.func 17), args := #[Operand.tmp 40], argTypes := #[41] }, type := 47, pos := "exact.go:6872", after := #[{ on := 2, ground := Ground.data }, { on := 1, ground := Ground.chain }], guard := none }) rfl (fun K hK => ?_) AllReadyH.nil
  go_simp
  refine (toNK _ l1 _ (H1.out.on BB.out) (by have := Row.bulk_len l1; omega)).mono ?_
  rintro e wn21 ⟨v, rfl, ho, hb⟩
  obtain ⟨xB, nB, cB, rfl, ho⟩ := kN_shape ho
  have HBk := Lib.hid ho.at; clear ho
  replace XD := Lib.hid (XD.out.on hb)
  replace HA := Lib.hid (HA.out.on hb)
  replace BB := Lib.hid (BB.out.trans (hb.mono BB.out.size))
  clear hb
  (try go_wp2_with fail)
  clear hHeld
  refine hK.out _ _ ?_ (fun hHeld => ?_)
  · (try dsimp only); exact ⟨kc KN.out BB.out, kc KK.out BB.out⟩
  clear hK K
  (try simp only [Act.put, List.setIfInBounds_toArray, List.set_cons_zero, List.set_cons_succ])
  refine wpAnyH_ready (rs := [5]) (by kernel_rfl) (by simp) ?_
  refine AllReadyH.cons (o := { dst := some 43, op := Op.call { callee := Callee.value (Operand.func 17), args := #[Operand.tmp 42], argTypes := #[41] }, type := 47, pos := "exact.go:6872", after := #[{ on := 4, ground := Ground.data }, { on := 3, ground := Ground.chain }], guard := none }) rfl (fun K hK => ?_) AllReadyH.nil
  go_simp
  refine (toNK _ l2 _ (H2.out.on BB.out) (by have := Row.bulk_len l2; omega)).mono ?_
  rintro e wn22 ⟨v, rfl, ho, hb⟩
  obtain ⟨xC, nC, cC, rfl, ho⟩ := kN_shape ho
  have HC := Lib.hid ho.at; clear ho
  replace XD := Lib.hid (XD.out.on hb)
  replace HA := Lib.hid (HA.out.on hb)
  replace HBk := Lib.hid (HBk.out.on hb)
  replace BB := Lib.hid (BB.out.trans (hb.mono BB.out.size))
  clear hb
  (try go_wp2_with fail)
  clear hHeld
  refine hK.out _ _ ?_ (fun hHeld => ?_)
  · (try dsimp only); exact ⟨kc KN.out BB.out, kc KK.out BB.out⟩
  clear hK K
  (try simp only [Act.put, List.setIfInBounds_toArray, List.set_cons_zero, List.set_cons_succ])
  refine wpAnyH_ready (rs := [7]) (by kernel_rfl) (by simp) ?_
  refine AllReadyH.cons (o := { dst := some 45, op := Op.call { callee := Callee.value (Operand.func 30), args := #[Operand.tmp 39, Operand.tmp 41, Operand.tmp 43, Operand.tmp 44], argTypes := #[30, 47, 47, 3] }, type := 62, pos := "exact.go:6872", after := #[{ on := 1, ground := Ground.data }, { on := 3, ground := Ground.data }, { on := 5, ground := Ground.data }, { on := 6, ground := Ground.data }, { on := 5, ground := Ground.chain }], guard := none }) rfl (fun K hK => ?_) AllReadyH.nil
  go_simp
  refine (specIssueCertificate _ _ _ l0 l1 l2 a3 _ HA.out HBk.out HC.out (by omega) (by omega) (by omega)).mono ?_
  rintro e wn23 ⟨v, rfl, ho, hb⟩
  obtain ⟨ya, ma, da, yb, mb, db, yc, mc, dc_, rfl, ho⟩ := kD_shape ho
  have HX := Lib.hid (show kD.In w.heap.size wn23.heap.size wn23 (.agg #[.slice ya ma da, .slice yb mb db, .slice yc mc dc_, .int .i64 (Ring.sgK l0 l2 l1 (digK l0 l1) a3).2.2.2.1, .int .i64 (Ring.sgK l0 l2 l1 (digK l0 l1) a3).2.2.2.2]) (Ring.sgK l0 l2 l1 (digK l0 l1) a3) from Kd.In.mono ho BB.out.size (Nat.le_refl _)); clear ho
  replace XD := Lib.hid (XD.out.on hb)
  replace HA := Lib.hid (HA.out.on hb)
  replace HBk := Lib.hid (HBk.out.on hb)
  replace HC := Lib.hid (HC.out.on hb)
  replace BB := Lib.hid (BB.out.trans (hb.mono BB.out.size))
  clear hb
  (try go_wp2_with fail)
  clear hHeld
  refine hK.out _ _ ?_ (fun hHeld => ?_)
  · (try dsimp only); exact ⟨kc KN.out BB.out, kc KK.out BB.out⟩
  clear hK K
  (try simp only [Act.put, List.setIfInBounds_toArray, List.set_cons_zero, List.set_cons_succ])
  refine wpAnyH_take (i := 8) (oi := { dst := some 37, op := Op.move (Operand.tmp 45), type := 62, pos := "exact.go:6872", after := #[{ on := 7, ground := Ground.data }], guard := none }) (v := ?_) rfl (by kernel_rfl) (by kernel_rfl) (by kernel_rfl) (fun _ _ _ h => h) (Or.inl ⟨by rfl, ?_⟩) (by assumption) ?_
  rotate_left
  · intro w' hSw; (try dsimp only at hSw); first | (go_simp; done) | (go_simp; with_reducible rfl)
  (try simp only [Act.put, List.setIfInBounds_toArray, List.set_cons_zero, List.set_cons_succ])
  refine wpAnyH_take (i := 9) (oi := { dst := some 46, op := Op.extract (Operand.tmp 37) 0, type := 61, pos := "exact.go:6872", after := #[{ on := 8, ground := Ground.data }], guard := none }) (v := ?_) rfl (by kernel_rfl) (by kernel_rfl) (by kernel_rfl) (fun _ _ _ h => h) (Or.inl ⟨by rfl, ?_⟩) (by assumption) ?_
  rotate_left
  · intro w' hSw; (try dsimp only at hSw); first | (go_simp; done) | (go_simp; with_reducible rfl)
  (try simp only [Act.put, List.setIfInBounds_toArray, List.set_cons_zero, List.set_cons_succ])
  refine wpAnyH_take (i := 10) (oi := { dst := some 47, op := Op.extract (Operand.tmp 37) 1, type := 4, pos := "exact.go:6872", after := #[{ on := 8, ground := Ground.data }, { on := 12, ground := Ground.gcOnly Departure.lateStores }], guard := none }) (v := ?_) rfl (by kernel_rfl) (by kernel_rfl) (by kernel_rfl) (fun _ _ _ h => h) (Or.inl ⟨by rfl, ?_⟩) (by assumption) ?_
  rotate_left
  · intro w' hSw; (try dsimp only at hSw); first | (go_simp; done) | (go_simp; with_reducible rfl)
  (try simp only [Act.put, List.setIfInBounds_toArray, List.set_cons_zero, List.set_cons_succ])
  refine wpAnyH_ready (rs := [12]) (by kernel_rfl) (by simp) ?_
  refine AllReadyH.cons (o := { dst := none, op := Op.store 61 (Operand.tmp 10) (Operand.tmp 46), type := 0, pos := "exact.go:6872", after := #[{ on := 11, ground := Ground.data }, { on := 9, ground := Ground.data }, { on := 7, ground := Ground.chain }, { on := 0, ground := Ground.phase }, { on := 1, ground := Ground.phase }, { on := 2, ground := Ground.phase }, { on := 3, ground := Ground.phase }, { on := 4, ground := Ground.phase }, { on := 5, ground := Ground.phase }, { on := 6, ground := Ground.phase }, { on := 7, ground := Ground.phase }, { on := 8, ground := Ground.phase }, { on := 9, ground := Ground.phase }, { on := 10, ground := Ground.textOnly Departure.lateStores }, { on := 11, ground := Ground.phase }], guard := none }) rfl (fun K hK => ?_) AllReadyH.nil
  obtain ⟨r0, r1, r2, r3, r4⟩ := cells5_11 XD.out
  obtain ⟨t0, t1, t2, t3, t4⟩ := froz5_11 XD.out
  go_simp
  clear hHeld
  refine hK.out _ _ ?_ (fun hHeld => ?_)
  · (try dsimp only); exact ⟨cell_five11 (kc KN.out BB.out) (by have h1 : p < w.heap.size := cell_lt KN.out; have h2 := HDW.out; omega), cell_five11 (kc KK.out BB.out) (by have h1 : q < w.heap.size := cell_lt KK.out; have h2 := HDW.out; omega)⟩
  clear hK K
  (try simp only [Act.put, List.setIfInBounds_toArray, List.set_cons_zero, List.set_cons_succ])
  refine wpAnyH_take (i := 13) (oi := { dst := some 11, op := Op.assign (Operand.tmp 47), type := 4, pos := "exact.go:6872", after := #[{ on := 10, ground := Ground.data }, { on := 12, ground := Ground.chain }, { on := 0, ground := Ground.phase }, { on := 1, ground := Ground.phase }, { on := 2, ground := Ground.phase }, { on := 3, ground := Ground.phase }, { on := 4, ground := Ground.phase }, { on := 5, ground := Ground.phase }, { on := 6, ground := Ground.phase }, { on := 7, ground := Ground.phase }, { on := 8, ground := Ground.phase }, { on := 9, ground := Ground.phase }, { on := 10, ground := Ground.phase }, { on := 11, ground := Ground.phase }, { on := 12, ground := Ground.phase }], guard := none }) (v := ?_) rfl (by kernel_rfl) (by kernel_rfl) (by kernel_rfl) (fun _ _ _ h => h) (Or.inl ⟨by rfl, ?_⟩) (by assumption) ?_
  rotate_left
  · intro w' hSw; (try dsimp only at hSw); first | (go_simp; done) | (go_simp; with_reducible rfl)
  (try simp only [Act.put, List.setIfInBounds_toArray, List.set_cons_zero, List.set_cons_succ])
  refine wpAnyH_done (by kernel_rfl) ?_ _
  exact NoPanic.normal (HQ.out _ _ _ _ _ _ _ _ _ _ _ gD ma da mb db mc dc_ ya yb yc _ HDW.out XD.out HX.out BB.out)

set_option maxRecDepth 100000 in
set_option maxHeartbeats 4000000 in
theorem specIS {Q : Exit → Act → World → Prop} {v1 v2 v4 v7 v8 v9 v10 v11 v12 v13 v14 v15 v16 v17 v18 v19 v20 v21 v22 v23 v24 v25 v26 v27 v28 v29 v30 v31 v32 v33 v34 v35 v36 v37 v38 v39 v40 v41 v42 v43 v44 v45 v46 v47 v48 v49 v50 v51 v52 v53 v54 v55 v56 v57 v58 v59 v60 v61 v62 v63 v64 v65 v66 v67 v68 v69 v70 v71 v72 v73 v74 v75 v76 v77 v78 v79 v80 v81 v82 v83 v84 v85 v86 v87 v88 v89 v90 v91 v92 v93 v94 v95 v96 v97 v98 v99 v100 v101 v102 v103 v104 v105 v106 v107 v108 v109 v110 v111 v112 v113 v114 v115 v116 v117 v118 v119 v120 v121 v122 v123 v124 v125 v126 v127 v128 v129 v130 v131 v132 v133 v134 v135 v136 v137 v138 v139 v140 v141 v142 v143 v144 v145 v146 : Value} {w : World} {p q nl cl nk ck nn cn : Nat} {xl xk xn : Option Addr} {l0 : Ring.Kt} {l1 l2 : List ByteArray} {a3 : Int} (H0 : Hid (Ring.kK.At w (.slice xl nl cl) l0)) (H1 : Hid (kN.At w (.agg #[.slice xn nn cn]) l1)) (H2 : Hid (kN.At w (.agg #[.slice xk nk ck]) l2)) (Z0 : Ring.bulkT l0 ≤ 1048576) (Z1 : bulk l1 ≤ 1048576) (Z2 : bulk l2 ≤ 1048576) (KN : Hid (w.cell? ⟨p, 0, none⟩ = some (.slice xn nn cn))) (KK : Hid (w.cell? ⟨q, 0, none⟩ = some (.slice xk nk ck)))
    (hQ : ∀ (u37 u38 u39 u40 u41 u42 u43 u44 u45 u46 u47 : Value) (gD ma da mb db mc dc_ : Nat) (ya yb yc : Option Addr) (w2 : World), Below w.heap.size w w2 → kD.In w.heap.size w2.heap.size w2 (.agg #[.slice ya ma da, .slice yb mb db, .slice yc mc dc_, .int .i64 (Ring.sgK l0 l2 l1 (digK l0 l1) a3).2.2.2.1, .int .i64 (Ring.sgK l0 l2 l1 (digK l0 l1) a3).2.2.2.2]) (Ring.sgK l0 l2 l1 (digK l0 l1) a3) → Ret.Blk w2 gD #[.slice ya ma da, .slice yb mb db, .slice yc mc dc_, .int .i64 (Ring.sgK l0 l2 l1 (digK l0 l1) a3).2.2.2.1, .int .i64 (Ring.sgK l0 l2 l1 (digK l0 l1) a3).2.2.2.2] 61 → w.heap.size ≤ gD → gD < w2.heap.size → Q .normal ⟨#[.slice xl nl cl, v1, v2, .int .i64 a3, v4, .pointer (some ⟨p, 0, none⟩), .pointer (some ⟨q, 0, none⟩), v7, v8, v9, .pointer (some ⟨gD, 0, none⟩), .bool (Ring.sgOk l0 l2 l1 (digK l0 l1) a3), v12, v13, v14, v15, v16, v17, v18, v19, v20, v21, v22, v23, v24, v25, v26, v27, v28, v29, v30, v31, v32, v33, v34, v35, v36, u37, u38, u39, u40, u41, u42, u43, u44, u45, u46, u47, v48, v49, v50, v51, v52, v53, v54, v55, v56, v57, v58, v59, v60, v61, v62, v63, v64, v65, v66, v67, v68, v69, v70, v71, v72, v73, v74, v75, v76, v77, v78, v79, v80, v81, v82, v83, v84, v85, v86, v87, v88, v89, v90, v91, v92, v93, v94, v95, v96, v97, v98, v99, v100, v101, v102, v103, v104, v105, v106, v107, v108, v109, v110, v111, v112, v113, v114, v115, v116, v117, v118, v119, v120, v121, v122, v123, v124, v125, v126, v127, v128, v129, v130, v131, v132, v133, v134, v135, v136, v137, v138, v139, v140, v141, v142, v143, v144, v145, v146], []⟩ w2) :
    (Code.region 11 #[{ dst := some 38, op := Op.move (Operand.tmp 0), type := 22, pos := "exact.go:6872", after := #[], guard := none },
      { dst := some 39, op := Op.call { callee := Callee.value (Operand.func 16), args := #[Operand.tmp 38], argTypes := #[22] }, type := 30, pos := "exact.go:6872", after := #[{ on := 0, ground := Ground.data }], guard := none },
      { dst := some 40, op := Op.load 41 (Operand.tmp 5), type := 41, pos := "exact.go:6872", after := #[], guard := none },
      { dst := some 41, op := Op.call { callee := Callee.value (Operand.func 17), args := #[Operand.tmp 40], argTypes := #[41] }, type := 47, pos := "exact.go:6872", after := #[{ on := 2, ground := Ground.data }, { on := 1, ground := Ground.chain }], guard := none },
      { dst := some 42, op := Op.load 41 (Operand.tmp 6), type := 41, pos := "exact.go:6872", after := #[], guard := none },
      { dst := some 43, op := Op.call { callee := Callee.value (Operand.func 17), args := #[Operand.tmp 42], argTypes := #[41] }, type := 47, pos := "exact.go:6872", after := #[{ on := 4, ground := Ground.data }, { on := 3, ground := Ground.chain }], guard := none },
      { dst := some 44, op := Op.move (Operand.tmp 3), type := 3, pos := "exact.go:6872", after := #[], guard := none },
      { dst := some 45, op := Op.call { callee := Callee.value (Operand.func 30), args := #[Operand.tmp 39, Operand.tmp 41, Operand.tmp 43, Operand.tmp 44], argTypes := #[30, 47, 47, 3] }, type := 62, pos := "exact.go:6872", after := #[{ on := 1, ground := Ground.data }, { on := 3, ground := Ground.data }, { on := 5, ground := Ground.data }, { on := 6, ground := Ground.data }, { on := 5, ground := Ground.chain }], guard := none },
      { dst := some 37, op := Op.move (Operand.tmp 45), type := 62, pos := "exact.go:6872", after := #[{ on := 7, ground := Ground.data }], guard := none },
      { dst := some 46, op := Op.extract (Operand.tmp 37) 0, type := 61, pos := "exact.go:6872", after := #[{ on := 8, ground := Ground.data }], guard := none },
      { dst := some 47, op := Op.extract (Operand.tmp 37) 1, type := 4, pos := "exact.go:6872", after := #[{ on := 8, ground := Ground.data }, { on := 12, ground := Ground.gcOnly Departure.lateStores }], guard := none },
      { dst := some 10, op := Op.alloc 61, type := 0, pos := "exact.go:6872", after := #[], guard := none },
      { dst := none, op := Op.store 61 (Operand.tmp 10) (Operand.tmp 46), type := 0, pos := "exact.go:6872", after := #[{ on := 11, ground := Ground.data }, { on := 9, ground := Ground.data }, { on := 7, ground := Ground.chain }, { on := 0, ground := Ground.phase }, { on := 1, ground := Ground.phase }, { on := 2, ground := Ground.phase }, { on := 3, ground := Ground.phase }, { on := 4, ground := Ground.phase }, { on := 5, ground := Ground.phase }, { on := 6, ground := Ground.phase }, { on := 7, ground := Ground.phase }, { on := 8, ground := Ground.phase }, { on := 9, ground := Ground.phase }, { on := 10, ground := Ground.textOnly Departure.lateStores }, { on := 11, ground := Ground.phase }], guard := none },
      { dst := some 11, op := Op.assign (Operand.tmp 47), type := 4, pos := "exact.go:6872", after := #[{ on := 10, ground := Ground.data }, { on := 12, ground := Ground.chain }, { on := 0, ground := Ground.phase }, { on := 1, ground := Ground.phase }, { on := 2, ground := Ground.phase }, { on := 3, ground := Ground.phase }, { on := 4, ground := Ground.phase }, { on := 5, ground := Ground.phase }, { on := 6, ground := Ground.phase }, { on := 7, ground := Ground.phase }, { on := 8, ground := Ground.phase }, { on := 9, ground := Ground.phase }, { on := 10, ground := Ground.phase }, { on := 11, ground := Ground.phase }, { on := 12, ground := Ground.phase }], guard := none }] true).wp Try.prog Q ⟨#[.slice xl nl cl, v1, v2, .int .i64 a3, v4, .pointer (some ⟨p, 0, none⟩), .pointer (some ⟨q, 0, none⟩), v7, v8, v9, v10, v11, v12, v13, v14, v15, v16, v17, v18, v19, v20, v21, v22, v23, v24, v25, v26, v27, v28, v29, v30, v31, v32, v33, v34, v35, v36, v37, v38, v39, v40, v41, v42, v43, v44, v45, v46, v47, v48, v49, v50, v51, v52, v53, v54, v55, v56, v57, v58, v59, v60, v61, v62, v63, v64, v65, v66, v67, v68, v69, v70, v71, v72, v73, v74, v75, v76, v77, v78, v79, v80, v81, v82, v83, v84, v85, v86, v87, v88, v89, v90, v91, v92, v93, v94, v95, v96, v97, v98, v99, v100, v101, v102, v103, v104, v105, v106, v107, v108, v109, v110, v111, v112, v113, v114, v115, v116, v117, v118, v119, v120, v121, v122, v123, v124, v125, v126, v127, v128, v129, v130, v131, v132, v133, v134, v135, v136, v137, v138, v139, v140, v141, v142, v143, v144, v145, v146], []⟩ w := by
  refine specIS0 H0 H1 H2 Z0 Z1 Z2 KN KK ?_
  intro u37 u38 u39 u40 u41 u42 u43 u44 u45 u46 u47 gD ma da mb db mc dc_ ya yb yc wx hgd hxd hin hb
  obtain ⟨h1, h2, h3⟩ := five_facts11 hgd (Nat.le_refl _) hxd hin hb
  exact hQ _ _ _ _ _ _ _ _ _ _ _ _ _ _ _ _ _ _ _ _ _ _ h1 h2 h3 hgd (by rw [size_five11]; exact hxd.lt)

set_option maxRecDepth 100000 in
set_option maxHeartbeats 4000000 in
theorem implIS0 {Q : Exit → Act → World → Prop} {v1 v2 v4 v7 v8 v9 v10 v11 v12 v13 v14 v15 v16 v17 v18 v19 v20 v21 v22 v23 v24 v25 v26 v27 v28 v29 v30 v31 v32 v33 v34 v35 v36 v37 v38 v39 v40 v41 v42 v43 v44 v45 v46 v47 v48 v49 v50 v51 v52 v53 v54 v55 v56 v57 v58 v59 v60 v61 v62 v63 v64 v65 v66 v67 v68 v69 v70 v71 v72 v73 v74 v75 v76 v77 v78 v79 v80 v81 v82 v83 v84 v85 v86 v87 v88 v89 v90 v91 v92 v93 v94 v95 v96 v97 v98 v99 v100 v101 v102 v103 v104 v105 v106 v107 v108 v109 v110 v111 v112 v113 v114 v115 v116 v117 v118 v119 v120 v121 v122 v123 v124 v125 v126 v127 v128 v129 v130 v131 v132 v133 v134 v135 v136 v137 v138 v139 v140 v141 v142 v143 v144 v145 v146 : Value} {w : World} {p q nl cl nk ck nn cn : Nat} {xl xk xn : Option Addr} {l0 : Ring.Kt} {l1 l2 : List ByteArray} {a3 : Int} (H0 : Hid (Ring.kK.At w (.slice xl nl cl) l0)) (H1 : Hid (kN.At w (.agg #[.slice xn nn cn]) l1)) (H2 : Hid (kN.At w (.agg #[.slice xk nk ck]) l2)) (Z0 : Ring.bulkT l0 ≤ 1048576) (Z1 : bulk l1 ≤ 1048576) (Z2 : bulk l2 ≤ 1048576) (KN : Hid (w.cell? ⟨p, 0, none⟩ = some (.slice xn nn cn))) (KK : Hid (w.cell? ⟨q, 0, none⟩ = some (.slice xk nk ck)))
    (hQ : ∀ (u119 u120 u121 u122 u123 u124 u125 u126 u127 u128 u129 : Value) (gD ma da mb db mc dc_ : Nat) (ya yb yc : Option Addr)  (wx : World), w.heap.size ≤ gD → Ret.Blk wx gD (dc (.slice none 0 0) (.slice none 0 0) (.slice none 0 0) 0 0) 61 → kD.In w.heap.size wx.heap.size wx (.agg #[.slice ya ma da, .slice yb mb db, .slice yc mc dc_, .int .i64 (Ring.sgK l0 l2 l1 (digK l0 l1) a3).2.2.2.1, .int .i64 (Ring.sgK l0 l2 l1 (digK l0 l1) a3).2.2.2.2]) (Ring.sgK l0 l2 l1 (digK l0 l1) a3) → Below w.heap.size w wx → Q .normal ⟨#[.slice xl nl cl, v1, v2, .int .i64 a3, v4, .pointer (some ⟨p, 0, none⟩), .pointer (some ⟨q, 0, none⟩), v7, v8, v9, v10, v11, v12, v13, v14, v15, v16, v17, v18, v19, .pointer (some ⟨gD, 0, none⟩), .bool (Ring.sgOk l0 l2 l1 (digK l0 l1) a3), v22, v23, v24, v25, v26, v27, v28, v29, v30, v31, v32, v33, v34, v35, v36, v37, v38, v39, v40, v41, v42, v43, v44, v45, v46, v47, v48, v49, v50, v51, v52, v53, v54, v55, v56, v57, v58, v59, v60, v61, v62, v63, v64, v65, v66, v67, v68, v69, v70, v71, v72, v73, v74, v75, v76, v77, v78, v79, v80, v81, v82, v83, v84, v85, v86, v87, v88, v89, v90, v91, v92, v93, v94, v95, v96, v97, v98, v99, v100, v101, v102, v103, v104, v105, v106, v107, v108, v109, v110, v111, v112, v113, v114, v115, v116, v117, v118, u119, u120, u121, u122, u123, u124, u125, u126, u127, u128, u129, v130, v131, v132, v133, v134, v135, v136, v137, v138, v139, v140, v141, v142, v143, v144, v145, v146], []⟩ ((((((wx).setCell ⟨gD, 0, none⟩ (.slice ya ma da)).setCell ⟨gD, 1, none⟩ (.slice yb mb db)).setCell ⟨gD, 2, none⟩ (.slice yc mc dc_)).setCell ⟨gD, 3, none⟩ (.int .i64 (Ring.sgK l0 l2 l1 (digK l0 l1) a3).2.2.2.1)).setCell ⟨gD, 4, none⟩ (.int .i64 (Ring.sgK l0 l2 l1 (digK l0 l1) a3).2.2.2.2))) :
    (Code.region 38 #[{ dst := some 120, op := Op.move (Operand.tmp 0), type := 22, pos := "exact.go:6906", after := #[], guard := none },
      { dst := some 121, op := Op.call { callee := Callee.value (Operand.func 16), args := #[Operand.tmp 120], argTypes := #[22] }, type := 30, pos := "exact.go:6906", after := #[{ on := 0, ground := Ground.data }], guard := none },
      { dst := some 122, op := Op.load 41 (Operand.tmp 5), type := 41, pos := "exact.go:6906", after := #[], guard := none },
      { dst := some 123, op := Op.call { callee := Callee.value (Operand.func 17), args := #[Operand.tmp 122], argTypes := #[41] }, type := 47, pos := "exact.go:6906", after := #[{ on := 2, ground := Ground.data }, { on := 1, ground := Ground.chain }], guard := none },
      { dst := some 124, op := Op.load 41 (Operand.tmp 6), type := 41, pos := "exact.go:6906", after := #[], guard := none },
      { dst := some 125, op := Op.call { callee := Callee.value (Operand.func 17), args := #[Operand.tmp 124], argTypes := #[41] }, type := 47, pos := "exact.go:6906", after := #[{ on := 4, ground := Ground.data }, { on := 3, ground := Ground.chain }], guard := none },
      { dst := some 126, op := Op.move (Operand.tmp 3), type := 3, pos := "exact.go:6906", after := #[], guard := none },
      { dst := some 127, op := Op.call { callee := Callee.value (Operand.func 31), args := #[Operand.tmp 121, Operand.tmp 123, Operand.tmp 125, Operand.tmp 126], argTypes := #[30, 47, 47, 3] }, type := 62, pos := "exact.go:6906", after := #[{ on := 1, ground := Ground.data }, { on := 3, ground := Ground.data }, { on := 5, ground := Ground.data }, { on := 6, ground := Ground.data }, { on := 5, ground := Ground.chain }], guard := none },
      { dst := some 119, op := Op.move (Operand.tmp 127), type := 62, pos := "exact.go:6906", after := #[{ on := 7, ground := Ground.data }], guard := none },
      { dst := some 128, op := Op.extract (Operand.tmp 119) 0, type := 61, pos := "exact.go:6906", after := #[{ on := 8, ground := Ground.data }], guard := none },
      { dst := some 129, op := Op.extract (Operand.tmp 119) 1, type := 4, pos := "exact.go:6906", after := #[{ on := 8, ground := Ground.data }, { on := 12, ground := Ground.gcOnly Departure.lateStores }], guard := none },
      { dst := some 20, op := Op.alloc 61, type := 0, pos := "exact.go:6906", after := #[], guard := none },
      { dst := none, op := Op.store 61 (Operand.tmp 20) (Operand.tmp 128), type := 0, pos := "exact.go:6906", after := #[{ on := 11, ground := Ground.data }, { on := 9, ground := Ground.data }, { on := 7, ground := Ground.chain }, { on := 0, ground := Ground.phase }, { on := 1, ground := Ground.phase }, { on := 2, ground := Ground.phase }, { on := 3, ground := Ground.phase }, { on := 4, ground := Ground.phase }, { on := 5, ground := Ground.phase }, { on := 6, ground := Ground.phase }, { on := 7, ground := Ground.phase }, { on := 8, ground := Ground.phase }, { on := 9, ground := Ground.phase }, { on := 10, ground := Ground.textOnly Departure.lateStores }, { on := 11, ground := Ground.phase }], guard := none },
      { dst := some 21, op := Op.assign (Operand.tmp 129), type := 4, pos := "exact.go:6906", after := #[{ on := 10, ground := Ground.data }, { on := 12, ground := Ground.chain }, { on := 0, ground := Ground.phase }, { on := 1, ground := Ground.phase }, { on := 2, ground := Ground.phase }, { on := 3, ground := Ground.phase }, { on := 4, ground := Ground.phase }, { on := 5, ground := Ground.phase }, { on := 6, ground := Ground.phase }, { on := 7, ground := Ground.phase }, { on := 8, ground := Ground.phase }, { on := 9, ground := Ground.phase }, { on := 10, ground := Ground.phase }, { on := 11, ground := Ground.phase }, { on := 12, ground := Ground.phase }], guard := none }] true).wp Try.prog Q ⟨#[.slice xl nl cl, v1, v2, .int .i64 a3, v4, .pointer (some ⟨p, 0, none⟩), .pointer (some ⟨q, 0, none⟩), v7, v8, v9, v10, v11, v12, v13, v14, v15, v16, v17, v18, v19, v20, v21, v22, v23, v24, v25, v26, v27, v28, v29, v30, v31, v32, v33, v34, v35, v36, v37, v38, v39, v40, v41, v42, v43, v44, v45, v46, v47, v48, v49, v50, v51, v52, v53, v54, v55, v56, v57, v58, v59, v60, v61, v62, v63, v64, v65, v66, v67, v68, v69, v70, v71, v72, v73, v74, v75, v76, v77, v78, v79, v80, v81, v82, v83, v84, v85, v86, v87, v88, v89, v90, v91, v92, v93, v94, v95, v96, v97, v98, v99, v100, v101, v102, v103, v104, v105, v106, v107, v108, v109, v110, v111, v112, v113, v114, v115, v116, v117, v118, v119, v120, v121, v122, v123, v124, v125, v126, v127, v128, v129, v130, v131, v132, v133, v134, v135, v136, v137, v138, v139, v140, v141, v142, v143, v144, v145, v146], []⟩ w := by
  have HQ := Lib.hid hQ; clear hQ
  have hdr : Below w.heap.size w w.drew := (Below.refl _ _).drew
  have BB := Lib.hid hdr
  refine wp_region_noPanic ?_
  refine wp_region_held_drew (S := (fun w' => w'.cell? ⟨p, 0, none⟩ = some (.slice xn nn cn) ∧ w'.cell? ⟨q, 0, none⟩ = some (.slice xk nk ck))) (by kernel_rfl) ?_ (fun hHeld => ?_)
  · exact ⟨kc KN.out BB.out, kc KK.out BB.out⟩
  clear hdr
  generalize w.drew = wd at *
  refine wpAnyH_take (i := 0) (oi := { dst := some 120, op := Op.move (Operand.tmp 0), type := 22, pos := "exact.go:6906", after := #[], guard := none }) (v := ?_) rfl (by kernel_rfl) (by kernel_rfl) (by kernel_rfl) (fun _ _ _ h => h) (Or.inl ⟨by rfl, ?_⟩) (by assumption) ?_
  rotate_left
  · intro w' hSw; (try dsimp only at hSw); first | (go_simp; done) | (go_simp; with_reducible rfl)
  (try simp only [Act.put, List.setIfInBounds_toArray, List.set_cons_zero, List.set_cons_succ])
  refine wpAnyH_take (i := 2) (oi := { dst := some 122, op := Op.load 41 (Operand.tmp 5), type := 41, pos := "exact.go:6906", after := #[], guard := none }) (v := ?_) rfl (by kernel_rfl) (by kernel_rfl) (by kernel_rfl) (fun _ _ _ h => h) (Or.inl ⟨by rfl, ?_⟩) (by assumption) ?_
  rotate_left
  · intro w' hSw; (try dsimp only at hSw); first | (go_simp; done) | (go_simp; with_reducible rfl)
  (try simp only [Act.put, List.setIfInBounds_toArray, List.set_cons_zero, List.set_cons_succ])
  refine wpAnyH_take (i := 4) (oi := { dst := some 124, op := Op.load 41 (Operand.tmp 6), type := 41, pos := "exact.go:6906", after := #[], guard := none }) (v := ?_) rfl (by kernel_rfl) (by kernel_rfl) (by kernel_rfl) (fun _ _ _ h => h) (Or.inl ⟨by rfl, ?_⟩) (by assumption) ?_
  rotate_left
  · intro w' hSw; (try dsimp only at hSw); first | (go_simp; done) | (go_simp; with_reducible rfl)
  (try simp only [Act.put, List.setIfInBounds_toArray, List.set_cons_zero, List.set_cons_succ])
  refine wpAnyH_take (i := 6) (oi := { dst := some 126, op := Op.move (Operand.tmp 3), type := 3, pos := "exact.go:6906", after := #[], guard := none }) (v := ?_) rfl (by kernel_rfl) (by kernel_rfl) (by kernel_rfl) (fun _ _ _ h => h) (Or.inl ⟨by rfl, ?_⟩) (by assumption) ?_
  rotate_left
  · intro w' hSw; (try dsimp only at hSw); first | (go_simp; done) | (go_simp; with_reducible rfl)
  (try simp only [Act.put, List.setIfInBounds_toArray, List.set_cons_zero, List.set_cons_succ])
  refine wpAnyH_ready (rs := [1, 11]) (by kernel_rfl) (by simp) ?_
  refine AllReadyH.cons (o := { dst := some 121, op := Op.call { callee := Callee.value (Operand.func 16), args := #[Operand.tmp 120], argTypes := #[22] }, type := 30, pos := "exact.go:6906", after := #[{ on := 0, ground := Ground.data }], guard := none }) rfl (fun K hK => ?_) ?_
  ·
    go_simp
    refine (Ring.toKK _ l0 _ (H0.out.on BB.out) (by omega)).mono ?_
    rintro e wn1 ⟨v, rfl, ho, hb⟩
    obtain ⟨xA, nA, cA, rfl, ho⟩ := Ring.kK_shape ho
    have HA := Lib.hid ho.at; clear ho
    replace BB := Lib.hid (BB.out.trans (hb.mono BB.out.size))
    clear hb
    (try go_wp2_with fail)
    clear hHeld
    refine hK.out _ _ ?_ (fun hHeld => ?_)
    · (try dsimp only); exact ⟨kc KN.out BB.out, kc KK.out BB.out⟩
    clear hK K
    (try simp only [Act.put, List.setIfInBounds_toArray, List.set_cons_zero, List.set_cons_succ])
    refine wpAnyH_ready (rs := [3, 11]) (by kernel_rfl) (by simp) ?_
    refine AllReadyH.cons (o := { dst := some 123, op := Op.call { callee := Callee.value (Operand.func 17), args := #[Operand.tmp 122], argTypes := #[41] }, type := 47, pos := "exact.go:6906", after := #[{ on := 2, ground := Ground.data }, { on := 1, ground := Ground.chain }], guard := none }) rfl (fun K hK => ?_) ?_
    ·
      go_simp
      refine (toNK _ l1 _ (H1.out.on BB.out) (by have := Row.bulk_len l1; omega)).mono ?_
      rintro e wn2 ⟨v, rfl, ho, hb⟩
      obtain ⟨xB, nB, cB, rfl, ho⟩ := kN_shape ho
      have HBk := Lib.hid ho.at; clear ho
      replace HA := Lib.hid (HA.out.on hb)
      replace BB := Lib.hid (BB.out.trans (hb.mono BB.out.size))
      clear hb
      (try go_wp2_with fail)
      clear hHeld
      refine hK.out _ _ ?_ (fun hHeld => ?_)
      · (try dsimp only); exact ⟨kc KN.out BB.out, kc KK.out BB.out⟩
      clear hK K
      (try simp only [Act.put, List.setIfInBounds_toArray, List.set_cons_zero, List.set_cons_succ])
      refine wpAnyH_ready (rs := [5, 11]) (by kernel_rfl) (by simp) ?_
      refine AllReadyH.cons (o := { dst := some 125, op := Op.call { callee := Callee.value (Operand.func 17), args := #[Operand.tmp 124], argTypes := #[41] }, type := 47, pos := "exact.go:6906", after := #[{ on := 4, ground := Ground.data }, { on := 3, ground := Ground.chain }], guard := none }) rfl (fun K hK => ?_) ?_
      ·
        go_simp
        refine (toNK _ l2 _ (H2.out.on BB.out) (by have := Row.bulk_len l2; omega)).mono ?_
        rintro e wn3 ⟨v, rfl, ho, hb⟩
        obtain ⟨xC, nC, cC, rfl, ho⟩ := kN_shape ho
        have HC := Lib.hid ho.at; clear ho
        replace HA := Lib.hid (HA.out.on hb)
        replace HBk := Lib.hid (HBk.out.on hb)
        replace BB := Lib.hid (BB.out.trans (hb.mono BB.out.size))
        clear hb
        (try go_wp2_with fail)
        clear hHeld
        refine hK.out _ _ ?_ (fun hHeld => ?_)
        · (try dsimp only); exact ⟨kc KN.out BB.out, kc KK.out BB.out⟩
        clear hK K
        (try simp only [Act.put, List.setIfInBounds_toArray, List.set_cons_zero, List.set_cons_succ])
        refine wpAnyH_ready (rs := [7, 11]) (by kernel_rfl) (by simp) ?_
        refine AllReadyH.cons (o := { dst := some 127, op := Op.call { callee := Callee.value (Operand.func 31), args := #[Operand.tmp 121, Operand.tmp 123, Operand.tmp 125, Operand.tmp 126], argTypes := #[30, 47, 47, 3] }, type := 62, pos := "exact.go:6906", after := #[{ on := 1, ground := Ground.data }, { on := 3, ground := Ground.data }, { on := 5, ground := Ground.data }, { on := 6, ground := Ground.data }, { on := 5, ground := Ground.chain }], guard := none }) rfl (fun K hK => ?_) ?_
        ·
          go_simp
          refine (implIssueCertificate _ _ _ l0 l1 l2 a3 _ HA.out HBk.out HC.out (by omega) (by omega) (by omega)).mono ?_
          rintro e wn4 ⟨v, rfl, ho, hb⟩
          obtain ⟨ya, ma, da, yb, mb, db, yc, mc, dc_, rfl, ho⟩ := kD_shape ho
          have HX := Lib.hid (show kD.In w.heap.size wn4.heap.size wn4 (.agg #[.slice ya ma da, .slice yb mb db, .slice yc mc dc_, .int .i64 (Ring.sgK l0 l2 l1 (digK l0 l1) a3).2.2.2.1, .int .i64 (Ring.sgK l0 l2 l1 (digK l0 l1) a3).2.2.2.2]) (Ring.sgK l0 l2 l1 (digK l0 l1) a3) from Kd.In.mono ho BB.out.size (Nat.le_refl _)); clear ho
          replace HA := Lib.hid (HA.out.on hb)
          replace HBk := Lib.hid (HBk.out.on hb)
          replace HC := Lib.hid (HC.out.on hb)
          replace BB := Lib.hid (BB.out.trans (hb.mono BB.out.size))
          clear hb
          (try go_wp2_with fail)
          clear hHeld
          refine hK.out _ _ ?_ (fun hHeld => ?_)
          · (try dsimp only); exact ⟨kc KN.out BB.out, kc KK.out BB.out⟩
          clear hK K
          (try simp only [Act.put, List.setIfInBounds_toArray, List.set_cons_zero, List.set_cons_succ])
          refine wpAnyH_take (i := 8) (oi := { dst := some 119, op := Op.move (Operand.tmp 127), type := 62, pos := "exact.go:6906", after := #[{ on := 7, ground := Ground.data }], guard := none }) (v := ?_) rfl (by kernel_rfl) (by kernel_rfl) (by kernel_rfl) (fun _ _ _ h => h) (Or.inl ⟨by rfl, ?_⟩) (by assumption) ?_
          rotate_left
          · intro w' hSw; (try dsimp only at hSw); first | (go_simp; done) | (go_simp; with_reducible rfl)
          (try simp only [Act.put, List.setIfInBounds_toArray, List.set_cons_zero, List.set_cons_succ])
          refine wpAnyH_take (i := 9) (oi := { dst := some 128, op := Op.extract (Operand.tmp 119) 0, type := 61, pos := "exact.go:6906", after := #[{ on := 8, ground := Ground.data }], guard := none }) (v := ?_) rfl (by kernel_rfl) (by kernel_rfl) (by kernel_rfl) (fun _ _ _ h => h) (Or.inl ⟨by rfl, ?_⟩) (by assumption) ?_
          rotate_left
          · intro w' hSw; (try dsimp only at hSw); first | (go_simp; done) | (go_simp; with_reducible rfl)
          (try simp only [Act.put, List.setIfInBounds_toArray, List.set_cons_zero, List.set_cons_succ])
          refine wpAnyH_take (i := 10) (oi := { dst := some 129, op := Op.extract (Operand.tmp 119) 1, type := 4, pos := "exact.go:6906", after := #[{ on := 8, ground := Ground.data }, { on := 12, ground := Ground.gcOnly Departure.lateStores }], guard := none }) (v := ?_) rfl (by kernel_rfl) (by kernel_rfl) (by kernel_rfl) (fun _ _ _ h => h) (Or.inl ⟨by rfl, ?_⟩) (by assumption) ?_
          rotate_left
          · intro w' hSw; (try dsimp only at hSw); first | (go_simp; done) | (go_simp; with_reducible rfl)
          (try simp only [Act.put, List.setIfInBounds_toArray, List.set_cons_zero, List.set_cons_succ])
          refine wpAnyH_ready (rs := [11]) (by kernel_rfl) (by simp) ?_
          refine AllReadyH.cons (o := { dst := some 20, op := Op.alloc 61, type := 0, pos := "exact.go:6906", after := #[], guard := none }) rfl (fun K hK => ?_) AllReadyH.nil
          go_simp
          have hb : Below wn4.heap.size wn4 (wn4.alloc (.cells #[.slice none 0 0, .slice none 0 0, .slice none 0 0, .int .i64 0, .int .i64 0] 61)) := (Below.refl _ _).alloc (Nat.le_refl _) _
          obtain ⟨gD, hgD⟩ : ∃ g, g = wn4.heap.size := ⟨_, rfl⟩
          have XD := Lib.hid (show Ret.Blk (wn4.alloc (.cells #[.slice none 0 0, .slice none 0 0, .slice none 0 0, .int .i64 0, .int .i64 0] 61)) gD (dc (.slice none 0 0) (.slice none 0 0) (.slice none 0 0) 0 0) 61 from by rw [hgD]; exact Ret.Blk.new wn4 _ _)
          have HDW := Lib.hid (show w.heap.size ≤ gD from by rw [hgD]; exact BB.out.size)
          (first | replace HX := Lib.hid (show kD.In w.heap.size (wn4.alloc (.cells #[.slice none 0 0, .slice none 0 0, .slice none 0 0, .int .i64 0, .int .i64 0] 61)).heap.size (wn4.alloc (.cells #[.slice none 0 0, .slice none 0 0, .slice none 0 0, .int .i64 0, .int .i64 0] 61)) (.agg #[.slice ya ma da, .slice yb mb db, .slice yc mc dc_, .int .i64 (Ring.sgK l0 l2 l1 (digK l0 l1) a3).2.2.2.1, .int .i64 (Ring.sgK l0 l2 l1 (digK l0 l1) a3).2.2.2.2]) (Ring.sgK l0 l2 l1 (digK l0 l1) a3) from Kd.In.mono (Kd.In.on HX.out hb) (Nat.le_refl _) hb.size) | skip)
          rw [← hgD]
          clear hgD
          replace HA := Lib.hid (HA.out.on hb)
          replace HBk := Lib.hid (HBk.out.on hb)
          replace HC := Lib.hid (HC.out.on hb)
          replace BB := Lib.hid (BB.out.trans (hb.mono BB.out.size))
          clear hb
          generalize wn4.alloc (.cells #[.slice none 0 0, .slice none 0 0, .slice none 0 0, .int .i64 0, .int .i64 0] 61) = wn5 at *
          clear hHeld
          refine hK.out _ _ ?_ (fun hHeld => ?_)
          · (try dsimp only); exact ⟨kc KN.out BB.out, kc KK.out BB.out⟩
          clear hK K
          (try simp only [Act.put, List.setIfInBounds_toArray, List.set_cons_zero, List.set_cons_succ])
          refine wpAnyH_ready (rs := [12]) (by kernel_rfl) (by simp) ?_
          refine AllReadyH.cons (o := { dst := none, op := Op.store 61 (Operand.tmp 20) (Operand.tmp 128), type := 0, pos := "exact.go:6906", after := #[{ on := 11, ground := Ground.data }, { on := 9, ground := Ground.data }, { on := 7, ground := Ground.chain }, { on := 0, ground := Ground.phase }, { on := 1, ground := Ground.phase }, { on := 2, ground := Ground.phase }, { on := 3, ground := Ground.phase }, { on := 4, ground := Ground.phase }, { on := 5, ground := Ground.phase }, { on := 6, ground := Ground.phase }, { on := 7, ground := Ground.phase }, { on := 8, ground := Ground.phase }, { on := 9, ground := Ground.phase }, { on := 10, ground := Ground.textOnly Departure.lateStores }, { on := 11, ground := Ground.phase }], guard := none }) rfl (fun K hK => ?_) AllReadyH.nil
          obtain ⟨r0, r1, r2, r3, r4⟩ := cells5_11 XD.out
          obtain ⟨t0, t1, t2, t3, t4⟩ := froz5_11 XD.out
          go_simp
          clear hHeld
          refine hK.out _ _ ?_ (fun hHeld => ?_)
          · (try dsimp only); exact ⟨cell_five11 (kc KN.out BB.out) (by have h1 : p < w.heap.size := cell_lt KN.out; have h2 := HDW.out; omega), cell_five11 (kc KK.out BB.out) (by have h1 : q < w.heap.size := cell_lt KK.out; have h2 := HDW.out; omega)⟩
          clear hK K
          (try simp only [Act.put, List.setIfInBounds_toArray, List.set_cons_zero, List.set_cons_succ])
          refine wpAnyH_take (i := 13) (oi := { dst := some 21, op := Op.assign (Operand.tmp 129), type := 4, pos := "exact.go:6906", after := #[{ on := 10, ground := Ground.data }, { on := 12, ground := Ground.chain }, { on := 0, ground := Ground.phase }, { on := 1, ground := Ground.phase }, { on := 2, ground := Ground.phase }, { on := 3, ground := Ground.phase }, { on := 4, ground := Ground.phase }, { on := 5, ground := Ground.phase }, { on := 6, ground := Ground.phase }, { on := 7, ground := Ground.phase }, { on := 8, ground := Ground.phase }, { on := 9, ground := Ground.phase }, { on := 10, ground := Ground.phase }, { on := 11, ground := Ground.phase }, { on := 12, ground := Ground.phase }], guard := none }) (v := ?_) rfl (by kernel_rfl) (by kernel_rfl) (by kernel_rfl) (fun _ _ _ h => h) (Or.inl ⟨by rfl, ?_⟩) (by assumption) ?_
          rotate_left
          · intro w' hSw; (try dsimp only at hSw); first | (go_simp; done) | (go_simp; with_reducible rfl)
          (try simp only [Act.put, List.setIfInBounds_toArray, List.set_cons_zero, List.set_cons_succ])
          refine wpAnyH_done (by kernel_rfl) ?_ _
          exact NoPanic.normal (HQ.out _ _ _ _ _ _ _ _ _ _ _ gD ma da mb db mc dc_ ya yb yc _ HDW.out XD.out HX.out BB.out)
        refine AllReadyH.cons (o := { dst := some 20, op := Op.alloc 61, type := 0, pos := "exact.go:6906", after := #[], guard := none }) rfl (fun K hK => ?_) AllReadyH.nil
        go_simp
        have hb : Below wn3.heap.size wn3 (wn3.alloc (.cells #[.slice none 0 0, .slice none 0 0, .slice none 0 0, .int .i64 0, .int .i64 0] 61)) := (Below.refl _ _).alloc (Nat.le_refl _) _
        obtain ⟨gD, hgD⟩ : ∃ g, g = wn3.heap.size := ⟨_, rfl⟩
        have XD := Lib.hid (show Ret.Blk (wn3.alloc (.cells #[.slice none 0 0, .slice none 0 0, .slice none 0 0, .int .i64 0, .int .i64 0] 61)) gD (dc (.slice none 0 0) (.slice none 0 0) (.slice none 0 0) 0 0) 61 from by rw [hgD]; exact Ret.Blk.new wn3 _ _)
        have HDW := Lib.hid (show w.heap.size ≤ gD from by rw [hgD]; exact BB.out.size)
        (first | replace HX := Lib.hid (show kD.In w.heap.size (wn3.alloc (.cells #[.slice none 0 0, .slice none 0 0, .slice none 0 0, .int .i64 0, .int .i64 0] 61)).heap.size (wn3.alloc (.cells #[.slice none 0 0, .slice none 0 0, .slice none 0 0, .int .i64 0, .int .i64 0] 61)) (.agg #[.slice ya ma da, .slice yb mb db, .slice yc mc dc_, .int .i64 (Ring.sgK l0 l2 l1 (digK l0 l1) a3).2.2.2.1, .int .i64 (Ring.sgK l0 l2 l1 (digK l0 l1) a3).2.2.2.2]) (Ring.sgK l0 l2 l1 (digK l0 l1) a3) from Kd.In.mono (Kd.In.on HX.out hb) (Nat.le_refl _) hb.size) | skip)
        rw [← hgD]
        clear hgD
        replace HA := Lib.hid (HA.out.on hb)
        replace HBk := Lib.hid (HBk.out.on hb)
        replace HC := Lib.hid (HC.out.on hb)
        replace BB := Lib.hid (BB.out.trans (hb.mono BB.out.size))
        clear hb
        generalize wn3.alloc (.cells #[.slice none 0 0, .slice none 0 0, .slice none 0 0, .int .i64 0, .int .i64 0] 61) = wn7 at *
        clear hHeld
        refine hK.out _ _ ?_ (fun hHeld => ?_)
        · (try dsimp only); exact ⟨kc KN.out BB.out, kc KK.out BB.out⟩
        clear hK K
        (try simp only [Act.put, List.setIfInBounds_toArray, List.set_cons_zero, List.set_cons_succ])
        refine wpAnyH_ready (rs := [7]) (by kernel_rfl) (by simp) ?_
        refine AllReadyH.cons (o := { dst := some 127, op := Op.call { callee := Callee.value (Operand.func 31), args := #[Operand.tmp 121, Operand.tmp 123, Operand.tmp 125, Operand.tmp 126], argTypes := #[30, 47, 47, 3] }, type := 62, pos := "exact.go:6906", after := #[{ on := 1, ground := Ground.data }, { on := 3, ground := Ground.data }, { on := 5, ground := Ground.data }, { on := 6, ground := Ground.data }, { on := 5, ground := Ground.chain }], guard := none }) rfl (fun K hK => ?_) AllReadyH.nil
        go_simp
        refine (implIssueCertificate _ _ _ l0 l1 l2 a3 _ HA.out HBk.out HC.out (by omega) (by omega) (by omega)).mono ?_
        rintro e wn8 ⟨v, rfl, ho, hb⟩
        obtain ⟨ya, ma, da, yb, mb, db, yc, mc, dc_, rfl, ho⟩ := kD_shape ho
        have HX := Lib.hid (show kD.In w.heap.size wn8.heap.size wn8 (.agg #[.slice ya ma da, .slice yb mb db, .slice yc mc dc_, .int .i64 (Ring.sgK l0 l2 l1 (digK l0 l1) a3).2.2.2.1, .int .i64 (Ring.sgK l0 l2 l1 (digK l0 l1) a3).2.2.2.2]) (Ring.sgK l0 l2 l1 (digK l0 l1) a3) from Kd.In.mono ho BB.out.size (Nat.le_refl _)); clear ho
        replace HA := Lib.hid (HA.out.on hb)
        replace HBk := Lib.hid (HBk.out.on hb)
        replace HC := Lib.hid (HC.out.on hb)
        replace XD := Lib.hid (XD.out.on hb)
        replace BB := Lib.hid (BB.out.trans (hb.mono BB.out.size))
        clear hb
        (try go_wp2_with fail)
        clear hHeld
        refine hK.out _ _ ?_ (fun hHeld => ?_)
        · (try dsimp only); exact ⟨kc KN.out BB.out, kc KK.out BB.out⟩
        clear hK K
        (try simp only [Act.put, List.setIfInBounds_toArray, List.set_cons_zero, List.set_cons_succ])
        refine wpAnyH_take (i := 8) (oi := { dst := some 119, op := Op.move (Operand.tmp 127), type := 62, pos := "exact.go:6906", after := #[{ on := 7, ground := Ground.data }], guard := none }) (v := ?_) rfl (by kernel_rfl) (by kernel_rfl) (by kernel_rfl) (fun _ _ _ h => h) (Or.inl ⟨by rfl, ?_⟩) (by assumption) ?_
        rotate_left
        · intro w' hSw; (try dsimp only at hSw); first | (go_simp; done) | (go_simp; with_reducible rfl)
        (try simp only [Act.put, List.setIfInBounds_toArray, List.set_cons_zero, List.set_cons_succ])
        refine wpAnyH_take (i := 9) (oi := { dst := some 128, op := Op.extract (Operand.tmp 119) 0, type := 61, pos := "exact.go:6906", after := #[{ on := 8, ground := Ground.data }], guard := none }) (v := ?_) rfl (by kernel_rfl) (by kernel_rfl) (by kernel_rfl) (fun _ _ _ h => h) (Or.inl ⟨by rfl, ?_⟩) (by assumption) ?_
        rotate_left
        · intro w' hSw; (try dsimp only at hSw); first | (go_simp; done) | (go_simp; with_reducible rfl)
        (try simp only [Act.put, List.setIfInBounds_toArray, List.set_cons_zero, List.set_cons_succ])
        refine wpAnyH_take (i := 10) (oi := { dst := some 129, op := Op.extract (Operand.tmp 119) 1, type := 4, pos := "exact.go:6906", after := #[{ on := 8, ground := Ground.data }, { on := 12, ground := Ground.gcOnly Departure.lateStores }], guard := none }) (v := ?_) rfl (by kernel_rfl) (by kernel_rfl) (by kernel_rfl) (fun _ _ _ h => h) (Or.inl ⟨by rfl, ?_⟩) (by assumption) ?_
        rotate_left
        · intro w' hSw; (try dsimp only at hSw); first | (go_simp; done) | (go_simp; with_reducible rfl)
        (try simp only [Act.put, List.setIfInBounds_toArray, List.set_cons_zero, List.set_cons_succ])
        refine wpAnyH_ready (rs := [12]) (by kernel_rfl) (by simp) ?_
        refine AllReadyH.cons (o := { dst := none, op := Op.store 61 (Operand.tmp 20) (Operand.tmp 128), type := 0, pos := "exact.go:6906", after := #[{ on := 11, ground := Ground.data }, { on := 9, ground := Ground.data }, { on := 7, ground := Ground.chain }, { on := 0, ground := Ground.phase }, { on := 1, ground := Ground.phase }, { on := 2, ground := Ground.phase }, { on := 3, ground := Ground.phase }, { on := 4, ground := Ground.phase }, { on := 5, ground := Ground.phase }, { on := 6, ground := Ground.phase }, { on := 7, ground := Ground.phase }, { on := 8, ground := Ground.phase }, { on := 9, ground := Ground.phase }, { on := 10, ground := Ground.textOnly Departure.lateStores }, { on := 11, ground := Ground.phase }], guard := none }) rfl (fun K hK => ?_) AllReadyH.nil
        obtain ⟨r0, r1, r2, r3, r4⟩ := cells5_11 XD.out
        obtain ⟨t0, t1, t2, t3, t4⟩ := froz5_11 XD.out
        go_simp
        clear hHeld
        refine hK.out _ _ ?_ (fun hHeld => ?_)
        · (try dsimp only); exact ⟨cell_five11 (kc KN.out BB.out) (by have h1 : p < w.heap.size := cell_lt KN.out; have h2 := HDW.out; omega), cell_five11 (kc KK.out BB.out) (by have h1 : q < w.heap.size := cell_lt KK.out; have h2 := HDW.out; omega)⟩
        clear hK K
        (try simp only [Act.put, List.setIfInBounds_toArray, List.set_cons_zero, List.set_cons_succ])
        refine wpAnyH_take (i := 13) (oi := { dst := some 21, op := Op.assign (Operand.tmp 129), type := 4, pos := "exact.go:6906", after := #[{ on := 10, ground := Ground.data }, { on := 12, ground := Ground.chain }, { on := 0, ground := Ground.phase }, { on := 1, ground := Ground.phase }, { on := 2, ground := Ground.phase }, { on := 3, ground := Ground.phase }, { on := 4, ground := Ground.phase }, { on := 5, ground := Ground.phase }, { on := 6, ground := Ground.phase }, { on := 7, ground := Ground.phase }, { on := 8, ground := Ground.phase }, { on := 9, ground := Ground.phase }, { on := 10, ground := Ground.phase }, { on := 11, ground := Ground.phase }, { on := 12, ground := Ground.phase }], guard := none }) (v := ?_) rfl (by kernel_rfl) (by kernel_rfl) (by kernel_rfl) (fun _ _ _ h => h) (Or.inl ⟨by rfl, ?_⟩) (by assumption) ?_
        rotate_left
        · intro w' hSw; (try dsimp only at hSw); first | (go_simp; done) | (go_simp; with_reducible rfl)
        (try simp only [Act.put, List.setIfInBounds_toArray, List.set_cons_zero, List.set_cons_succ])
        refine wpAnyH_done (by kernel_rfl) ?_ _
        exact NoPanic.normal (HQ.out _ _ _ _ _ _ _ _ _ _ _ gD ma da mb db mc dc_ ya yb yc _ HDW.out XD.out HX.out BB.out)
      refine AllReadyH.cons (o := { dst := some 20, op := Op.alloc 61, type := 0, pos := "exact.go:6906", after := #[], guard := none }) rfl (fun K hK => ?_) AllReadyH.nil
      go_simp
      have hb : Below wn2.heap.size wn2 (wn2.alloc (.cells #[.slice none 0 0, .slice none 0 0, .slice none 0 0, .int .i64 0, .int .i64 0] 61)) := (Below.refl _ _).alloc (Nat.le_refl _) _
      obtain ⟨gD, hgD⟩ : ∃ g, g = wn2.heap.size := ⟨_, rfl⟩
      have XD := Lib.hid (show Ret.Blk (wn2.alloc (.cells #[.slice none 0 0, .slice none 0 0, .slice none 0 0, .int .i64 0, .int .i64 0] 61)) gD (dc (.slice none 0 0) (.slice none 0 0) (.slice none 0 0) 0 0) 61 from by rw [hgD]; exact Ret.Blk.new wn2 _ _)
      have HDW := Lib.hid (show w.heap.size ≤ gD from by rw [hgD]; exact BB.out.size)
      (first | replace HX := Lib.hid (show kD.In w.heap.size (wn2.alloc (.cells #[.slice none 0 0, .slice none 0 0, .slice none 0 0, .int .i64 0, .int .i64 0] 61)).heap.size (wn2.alloc (.cells #[.slice none 0 0, .slice none 0 0, .slice none 0 0, .int .i64 0, .int .i64 0] 61)) (.agg #[.slice ya ma da, .slice yb mb db, .slice yc mc dc_, .int .i64 (Ring.sgK l0 l2 l1 (digK l0 l1) a3).2.2.2.1, .int .i64 (Ring.sgK l0 l2 l1 (digK l0 l1) a3).2.2.2.2]) (Ring.sgK l0 l2 l1 (digK l0 l1) a3) from Kd.In.mono (Kd.In.on HX.out hb) (Nat.le_refl _) hb.size) | skip)
      rw [← hgD]
      clear hgD
      replace HA := Lib.hid (HA.out.on hb)
      replace HBk := Lib.hid (HBk.out.on hb)
      replace BB := Lib.hid (BB.out.trans (hb.mono BB.out.size))
      clear hb
      generalize wn2.alloc (.cells #[.slice none 0 0, .slice none 0 0, .slice none 0 0, .int .i64 0, .int .i64 0] 61) = wn10 at *
      clear hHeld
      refine hK.out _ _ ?_ (fun hHeld => ?_)
      · (try dsimp only); exact ⟨kc KN.out BB.out, kc KK.out BB.out⟩
      clear hK K
      (try simp only [Act.put, List.setIfInBounds_toArray, List.set_cons_zero, List.set_cons_succ])
      refine wpAnyH_ready (rs := [5]) (by kernel_rfl) (by simp) ?_
      refine AllReadyH.cons (o := { dst := some 125, op := Op.call { callee := Callee.value (Operand.func 17), args := #[Operand.tmp 124], argTypes := #[41] }, type := 47, pos := "exact.go:6906", after := #[{ on := 4, ground := Ground.data }, { on := 3, ground := Ground.chain }], guard := none }) rfl (fun K hK => ?_) AllReadyH.nil
      go_simp
      refine (toNK _ l2 _ (H2.out.on BB.out) (by have := Row.bulk_len l2; omega)).mono ?_
      rintro e wn11 ⟨v, rfl, ho, hb⟩
      obtain ⟨xC, nC, cC, rfl, ho⟩ := kN_shape ho
      have HC := Lib.hid ho.at; clear ho
      replace HA := Lib.hid (HA.out.on hb)
      replace HBk := Lib.hid (HBk.out.on hb)
      replace XD := Lib.hid (XD.out.on hb)
      replace BB := Lib.hid (BB.out.trans (hb.mono BB.out.size))
      clear hb
      (try go_wp2_with fail)
      clear hHeld
      refine hK.out _ _ ?_ (fun hHeld => ?_)
      · (try dsimp only); exact ⟨kc KN.out BB.out, kc KK.out BB.out⟩
      clear hK K
      (try simp only [Act.put, List.setIfInBounds_toArray, List.set_cons_zero, List.set_cons_succ])
      refine wpAnyH_ready (rs := [7]) (by kernel_rfl) (by simp) ?_
      refine AllReadyH.cons (o := { dst := some 127, op := Op.call { callee := Callee.value (Operand.func 31), args := #[Operand.tmp 121, Operand.tmp 123, Operand.tmp 125, Operand.tmp 126], argTypes := #[30, 47, 47, 3] }, type := 62, pos := "exact.go:6906", after := #[{ on := 1, ground := Ground.data }, { on := 3, ground := Ground.data }, { on := 5, ground := Ground.data }, { on := 6, ground := Ground.data }, { on := 5, ground := Ground.chain }], guard := none }) rfl (fun K hK => ?_) AllReadyH.nil
      go_simp
      refine (implIssueCertificate _ _ _ l0 l1 l2 a3 _ HA.out HBk.out HC.out (by omega) (by omega) (by omega)).mono ?_
      rintro e wn12 ⟨v, rfl, ho, hb⟩
      obtain ⟨ya, ma, da, yb, mb, db, yc, mc, dc_, rfl, ho⟩ := kD_shape ho
      have HX := Lib.hid (show kD.In w.heap.size wn12.heap.size wn12 (.agg #[.slice ya ma da, .slice yb mb db, .slice yc mc dc_, .int .i64 (Ring.sgK l0 l2 l1 (digK l0 l1) a3).2.2.2.1, .int .i64 (Ring.sgK l0 l2 l1 (digK l0 l1) a3).2.2.2.2]) (Ring.sgK l0 l2 l1 (digK l0 l1) a3) from Kd.In.mono ho BB.out.size (Nat.le_refl _)); clear ho
      replace HA := Lib.hid (HA.out.on hb)
      replace HBk := Lib.hid (HBk.out.on hb)
      replace XD := Lib.hid (XD.out.on hb)
      replace HC := Lib.hid (HC.out.on hb)
      replace BB := Lib.hid (BB.out.trans (hb.mono BB.out.size))
      clear hb
      (try go_wp2_with fail)
      clear hHeld
      refine hK.out _ _ ?_ (fun hHeld => ?_)
      · (try dsimp only); exact ⟨kc KN.out BB.out, kc KK.out BB.out⟩
      clear hK K
      (try simp only [Act.put, List.setIfInBounds_toArray, List.set_cons_zero, List.set_cons_succ])
      refine wpAnyH_take (i := 8) (oi := { dst := some 119, op := Op.move (Operand.tmp 127), type := 62, pos := "exact.go:6906", after := #[{ on := 7, ground := Ground.data }], guard := none }) (v := ?_) rfl (by kernel_rfl) (by kernel_rfl) (by kernel_rfl) (fun _ _ _ h => h) (Or.inl ⟨by rfl, ?_⟩) (by assumption) ?_
      rotate_left
      · intro w' hSw; (try dsimp only at hSw); first | (go_simp; done) | (go_simp; with_reducible rfl)
      (try simp only [Act.put, List.setIfInBounds_toArray, List.set_cons_zero, List.set_cons_succ])
      refine wpAnyH_take (i := 9) (oi := { dst := some 128, op := Op.extract (Operand.tmp 119) 0, type := 61, pos := "exact.go:6906", after := #[{ on := 8, ground := Ground.data }], guard := none }) (v := ?_) rfl (by kernel_rfl) (by kernel_rfl) (by kernel_rfl) (fun _ _ _ h => h) (Or.inl ⟨by rfl, ?_⟩) (by assumption) ?_
      rotate_left
      · intro w' hSw; (try dsimp only at hSw); first | (go_simp; done) | (go_simp; with_reducible rfl)
      (try simp only [Act.put, List.setIfInBounds_toArray, List.set_cons_zero, List.set_cons_succ])
      refine wpAnyH_take (i := 10) (oi := { dst := some 129, op := Op.extract (Operand.tmp 119) 1, type := 4, pos := "exact.go:6906", after := #[{ on := 8, ground := Ground.data }, { on := 12, ground := Ground.gcOnly Departure.lateStores }], guard := none }) (v := ?_) rfl (by kernel_rfl) (by kernel_rfl) (by kernel_rfl) (fun _ _ _ h => h) (Or.inl ⟨by rfl, ?_⟩) (by assumption) ?_
      rotate_left
      · intro w' hSw; (try dsimp only at hSw); first | (go_simp; done) | (go_simp; with_reducible rfl)
      (try simp only [Act.put, List.setIfInBounds_toArray, List.set_cons_zero, List.set_cons_succ])
      refine wpAnyH_ready (rs := [12]) (by kernel_rfl) (by simp) ?_
      refine AllReadyH.cons (o := { dst := none, op := Op.store 61 (Operand.tmp 20) (Operand.tmp 128), type := 0, pos := "exact.go:6906", after := #[{ on := 11, ground := Ground.data }, { on := 9, ground := Ground.data }, { on := 7, ground := Ground.chain }, { on := 0, ground := Ground.phase }, { on := 1, ground := Ground.phase }, { on := 2, ground := Ground.phase }, { on := 3, ground := Ground.phase }, { on := 4, ground := Ground.phase }, { on := 5, ground := Ground.phase }, { on := 6, ground := Ground.phase }, { on := 7, ground := Ground.phase }, { on := 8, ground := Ground.phase }, { on := 9, ground := Ground.phase }, { on := 10, ground := Ground.textOnly Departure.lateStores }, { on := 11, ground := Ground.phase }], guard := none }) rfl (fun K hK => ?_) AllReadyH.nil
      obtain ⟨r0, r1, r2, r3, r4⟩ := cells5_11 XD.out
      obtain ⟨t0, t1, t2, t3, t4⟩ := froz5_11 XD.out
      go_simp
      clear hHeld
      refine hK.out _ _ ?_ (fun hHeld => ?_)
      · (try dsimp only); exact ⟨cell_five11 (kc KN.out BB.out) (by have h1 : p < w.heap.size := cell_lt KN.out; have h2 := HDW.out; omega), cell_five11 (kc KK.out BB.out) (by have h1 : q < w.heap.size := cell_lt KK.out; have h2 := HDW.out; omega)⟩
      clear hK K
      (try simp only [Act.put, List.setIfInBounds_toArray, List.set_cons_zero, List.set_cons_succ])
      refine wpAnyH_take (i := 13) (oi := { dst := some 21, op := Op.assign (Operand.tmp 129), type := 4, pos := "exact.go:6906", after := #[{ on := 10, ground := Ground.data }, { on := 12, ground := Ground.chain }, { on := 0, ground := Ground.phase }, { on := 1, ground := Ground.phase }, { on := 2, ground := Ground.phase }, { on := 3, ground := Ground.phase }, { on := 4, ground := Ground.phase }, { on := 5, ground := Ground.phase }, { on := 6, ground := Ground.phase }, { on := 7, ground := Ground.phase }, { on := 8, ground := Ground.phase }, { on := 9, ground := Ground.phase }, { on := 10, ground := Ground.phase }, { on := 11, ground := Ground.phase }, { on := 12, ground := Ground.phase }], guard := none }) (v := ?_) rfl (by kernel_rfl) (by kernel_rfl) (by kernel_rfl) (fun _ _ _ h => h) (Or.inl ⟨by rfl, ?_⟩) (by assumption) ?_
      rotate_left
      · intro w' hSw; (try dsimp only at hSw); first | (go_simp; done) | (go_simp; with_reducible rfl)
      (try simp only [Act.put, List.setIfInBounds_toArray, List.set_cons_zero, List.set_cons_succ])
      refine wpAnyH_done (by kernel_rfl) ?_ _
      exact NoPanic.normal (HQ.out _ _ _ _ _ _ _ _ _ _ _ gD ma da mb db mc dc_ ya yb yc _ HDW.out XD.out HX.out BB.out)
    refine AllReadyH.cons (o := { dst := some 20, op := Op.alloc 61, type := 0, pos := "exact.go:6906", after := #[], guard := none }) rfl (fun K hK => ?_) AllReadyH.nil
    go_simp
    have hb : Below wn1.heap.size wn1 (wn1.alloc (.cells #[.slice none 0 0, .slice none 0 0, .slice none 0 0, .int .i64 0, .int .i64 0] 61)) := (Below.refl _ _).alloc (Nat.le_refl _) _
    obtain ⟨gD, hgD⟩ : ∃ g, g = wn1.heap.size := ⟨_, rfl⟩
    have XD := Lib.hid (show Ret.Blk (wn1.alloc (.cells #[.slice none 0 0, .slice none 0 0, .slice none 0 0, .int .i64 0, .int .i64 0] 61)) gD (dc (.slice none 0 0) (.slice none 0 0) (.slice none 0 0) 0 0) 61 from by rw [hgD]; exact Ret.Blk.new wn1 _ _)
    have HDW := Lib.hid (show w.heap.size ≤ gD from by rw [hgD]; exact BB.out.size)
    (first | replace HX := Lib.hid (show kD.In w.heap.size (wn1.alloc (.cells #[.slice none 0 0, .slice none 0 0, .slice none 0 0, .int .i64 0, .int .i64 0] 61)).heap.size (wn1.alloc (.cells #[.slice none 0 0, .slice none 0 0, .slice none 0 0, .int .i64 0, .int .i64 0] 61)) (.agg #[.slice ya ma da, .slice yb mb db, .slice yc mc dc_, .int .i64 (Ring.sgK l0 l2 l1 (digK l0 l1) a3).2.2.2.1, .int .i64 (Ring.sgK l0 l2 l1 (digK l0 l1) a3).2.2.2.2]) (Ring.sgK l0 l2 l1 (digK l0 l1) a3) from Kd.In.mono (Kd.In.on HX.out hb) (Nat.le_refl _) hb.size) | skip)
    rw [← hgD]
    clear hgD
    replace HA := Lib.hid (HA.out.on hb)
    replace BB := Lib.hid (BB.out.trans (hb.mono BB.out.size))
    clear hb
    generalize wn1.alloc (.cells #[.slice none 0 0, .slice none 0 0, .slice none 0 0, .int .i64 0, .int .i64 0] 61) = wn14 at *
    clear hHeld
    refine hK.out _ _ ?_ (fun hHeld => ?_)
    · (try dsimp only); exact ⟨kc KN.out BB.out, kc KK.out BB.out⟩
    clear hK K
    (try simp only [Act.put, List.setIfInBounds_toArray, List.set_cons_zero, List.set_cons_succ])
    refine wpAnyH_ready (rs := [3]) (by kernel_rfl) (by simp) ?_
    refine AllReadyH.cons (o := { dst := some 123, op := Op.call { callee := Callee.value (Operand.func 17), args := #[Operand.tmp 122], argTypes := #[41] }, type := 47, pos := "exact.go:6906", after := #[{ on := 2, ground := Ground.data }, { on := 1, ground := Ground.chain }], guard := none }) rfl (fun K hK => ?_) AllReadyH.nil
    go_simp
    refine (toNK _ l1 _ (H1.out.on BB.out) (by have := Row.bulk_len l1; omega)).mono ?_
    rintro e wn15 ⟨v, rfl, ho, hb⟩
    obtain ⟨xB, nB, cB, rfl, ho⟩ := kN_shape ho
    have HBk := Lib.hid ho.at; clear ho
    replace HA := Lib.hid (HA.out.on hb)
    replace XD := Lib.hid (XD.out.on hb)
    replace BB := Lib.hid (BB.out.trans (hb.mono BB.out.size))
    clear hb
    (try go_wp2_with fail)
    clear hHeld
    refine hK.out _ _ ?_ (fun hHeld => ?_)
    · (try dsimp only); exact ⟨kc KN.out BB.out, kc KK.out BB.out⟩
    clear hK K
    (try simp only [Act.put, List.setIfInBounds_toArray, List.set_cons_zero, List.set_cons_succ])
    refine wpAnyH_ready (rs := [5]) (by kernel_rfl) (by simp) ?_
    refine AllReadyH.cons (o := { dst := some 125, op := Op.call { callee := Callee.value (Operand.func 17), args := #[Operand.tmp 124], argTypes := #[41] }, type := 47, pos := "exact.go:6906", after := #[{ on := 4, ground := Ground.data }, { on := 3, ground := Ground.chain }], guard := none }) rfl (fun K hK => ?_) AllReadyH.nil
    go_simp
    refine (toNK _ l2 _ (H2.out.on BB.out) (by have := Row.bulk_len l2; omega)).mono ?_
    rintro e wn16 ⟨v, rfl, ho, hb⟩
    obtain ⟨xC, nC, cC, rfl, ho⟩ := kN_shape ho
    have HC := Lib.hid ho.at; clear ho
    replace HA := Lib.hid (HA.out.on hb)
    replace XD := Lib.hid (XD.out.on hb)
    replace HBk := Lib.hid (HBk.out.on hb)
    replace BB := Lib.hid (BB.out.trans (hb.mono BB.out.size))
    clear hb
    (try go_wp2_with fail)
    clear hHeld
    refine hK.out _ _ ?_ (fun hHeld => ?_)
    · (try dsimp only); exact ⟨kc KN.out BB.out, kc KK.out BB.out⟩
    clear hK K
    (try simp only [Act.put, List.setIfInBounds_toArray, List.set_cons_zero, List.set_cons_succ])
    refine wpAnyH_ready (rs := [7]) (by kernel_rfl) (by simp) ?_
    refine AllReadyH.cons (o := { dst := some 127, op := Op.call { callee := Callee.value (Operand.func 31), args := #[Operand.tmp 121, Operand.tmp 123, Operand.tmp 125, Operand.tmp 126], argTypes := #[30, 47, 47, 3] }, type := 62, pos := "exact.go:6906", after := #[{ on := 1, ground := Ground.data }, { on := 3, ground := Ground.data }, { on := 5, ground := Ground.data }, { on := 6, ground := Ground.data }, { on := 5, ground := Ground.chain }], guard := none }) rfl (fun K hK => ?_) AllReadyH.nil
    go_simp
    refine (implIssueCertificate _ _ _ l0 l1 l2 a3 _ HA.out HBk.out HC.out (by omega) (by omega) (by omega)).mono ?_
    rintro e wn17 ⟨v, rfl, ho, hb⟩
    obtain ⟨ya, ma, da, yb, mb, db, yc, mc, dc_, rfl, ho⟩ := kD_shape ho
    have HX := Lib.hid (show kD.In w.heap.size wn17.heap.size wn17 (.agg #[.slice ya ma da, .slice yb mb db, .slice yc mc dc_, .int .i64 (Ring.sgK l0 l2 l1 (digK l0 l1) a3).2.2.2.1, .int .i64 (Ring.sgK l0 l2 l1 (digK l0 l1) a3).2.2.2.2]) (Ring.sgK l0 l2 l1 (digK l0 l1) a3) from Kd.In.mono ho BB.out.size (Nat.le_refl _)); clear ho
    replace HA := Lib.hid (HA.out.on hb)
    replace XD := Lib.hid (XD.out.on hb)
    replace HBk := Lib.hid (HBk.out.on hb)
    replace HC := Lib.hid (HC.out.on hb)
    replace BB := Lib.hid (BB.out.trans (hb.mono BB.out.size))
    clear hb
    (try go_wp2_with fail)
    clear hHeld
    refine hK.out _ _ ?_ (fun hHeld => ?_)
    · (try dsimp only); exact ⟨kc KN.out BB.out, kc KK.out BB.out⟩
    clear hK K
    (try simp only [Act.put, List.setIfInBounds_toArray, List.set_cons_zero, List.set_cons_succ])
    refine wpAnyH_take (i := 8) (oi := { dst := some 119, op := Op.move (Operand.tmp 127), type := 62, pos := "exact.go:6906", after := #[{ on := 7, ground := Ground.data }], guard := none }) (v := ?_) rfl (by kernel_rfl) (by kernel_rfl) (by kernel_rfl) (fun _ _ _ h => h) (Or.inl ⟨by rfl, ?_⟩) (by assumption) ?_
    rotate_left
    · intro w' hSw; (try dsimp only at hSw); first | (go_simp; done) | (go_simp; with_reducible rfl)
    (try simp only [Act.put, List.setIfInBounds_toArray, List.set_cons_zero, List.set_cons_succ])
    refine wpAnyH_take (i := 9) (oi := { dst := some 128, op := Op.extract (Operand.tmp 119) 0, type := 61, pos := "exact.go:6906", after := #[{ on := 8, ground := Ground.data }], guard := none }) (v := ?_) rfl (by kernel_rfl) (by kernel_rfl) (by kernel_rfl) (fun _ _ _ h => h) (Or.inl ⟨by rfl, ?_⟩) (by assumption) ?_
    rotate_left
    · intro w' hSw; (try dsimp only at hSw); first | (go_simp; done) | (go_simp; with_reducible rfl)
    (try simp only [Act.put, List.setIfInBounds_toArray, List.set_cons_zero, List.set_cons_succ])
    refine wpAnyH_take (i := 10) (oi := { dst := some 129, op := Op.extract (Operand.tmp 119) 1, type := 4, pos := "exact.go:6906", after := #[{ on := 8, ground := Ground.data }, { on := 12, ground := Ground.gcOnly Departure.lateStores }], guard := none }) (v := ?_) rfl (by kernel_rfl) (by kernel_rfl) (by kernel_rfl) (fun _ _ _ h => h) (Or.inl ⟨by rfl, ?_⟩) (by assumption) ?_
    rotate_left
    · intro w' hSw; (try dsimp only at hSw); first | (go_simp; done) | (go_simp; with_reducible rfl)
    (try simp only [Act.put, List.setIfInBounds_toArray, List.set_cons_zero, List.set_cons_succ])
    refine wpAnyH_ready (rs := [12]) (by kernel_rfl) (by simp) ?_
    refine AllReadyH.cons (o := { dst := none, op := Op.store 61 (Operand.tmp 20) (Operand.tmp 128), type := 0, pos := "exact.go:6906", after := #[{ on := 11, ground := Ground.data }, { on := 9, ground := Ground.data }, { on := 7, ground := Ground.chain }, { on := 0, ground := Ground.phase }, { on := 1, ground := Ground.phase }, { on := 2, ground := Ground.phase }, { on := 3, ground := Ground.phase }, { on := 4, ground := Ground.phase }, { on := 5, ground := Ground.phase }, { on := 6, ground := Ground.phase }, { on := 7, ground := Ground.phase }, { on := 8, ground := Ground.phase }, { on := 9, ground := Ground.phase }, { on := 10, ground := Ground.textOnly Departure.lateStores }, { on := 11, ground := Ground.phase }], guard := none }) rfl (fun K hK => ?_) AllReadyH.nil
    obtain ⟨r0, r1, r2, r3, r4⟩ := cells5_11 XD.out
    obtain ⟨t0, t1, t2, t3, t4⟩ := froz5_11 XD.out
    go_simp
    clear hHeld
    refine hK.out _ _ ?_ (fun hHeld => ?_)
    · (try dsimp only); exact ⟨cell_five11 (kc KN.out BB.out) (by have h1 : p < w.heap.size := cell_lt KN.out; have h2 := HDW.out; omega), cell_five11 (kc KK.out BB.out) (by have h1 : q < w.heap.size := cell_lt KK.out; have h2 := HDW.out; omega)⟩
    clear hK K
    (try simp only [Act.put, List.setIfInBounds_toArray, List.set_cons_zero, List.set_cons_succ])
    refine wpAnyH_take (i := 13) (oi := { dst := some 21, op := Op.assign (Operand.tmp 129), type := 4, pos := "exact.go:6906", after := #[{ on := 10, ground := Ground.data }, { on := 12, ground := Ground.chain }, { on := 0, ground := Ground.phase }, { on := 1, ground := Ground.phase }, { on := 2, ground := Ground.phase }, { on := 3, ground := Ground.phase }, { on := 4, ground := Ground.phase }, { on := 5, ground := Ground.phase }, { on := 6, ground := Ground.phase }, { on := 7, ground := Ground.phase }, { on := 8, ground := Ground.phase }, { on := 9, ground := Ground.phase }, { on := 10, ground := Ground.phase }, { on := 11, ground := Ground.phase }, { on := 12, ground := Ground.phase }], guard := none }) (v := ?_) rfl (by kernel_rfl) (by kernel_rfl) (by kernel_rfl) (fun _ _ _ h => h) (Or.inl ⟨by rfl, ?_⟩) (by assumption) ?_
    rotate_left
    · intro w' hSw; (try dsimp only at hSw); first | (go_simp; done) | (go_simp; with_reducible rfl)
    (try simp only [Act.put, List.setIfInBounds_toArray, List.set_cons_zero, List.set_cons_succ])
    refine wpAnyH_done (by kernel_rfl) ?_ _
    exact NoPanic.normal (HQ.out _ _ _ _ _ _ _ _ _ _ _ gD ma da mb db mc dc_ ya yb yc _ HDW.out XD.out HX.out BB.out)
  refine AllReadyH.cons (o := { dst := some 20, op := Op.alloc 61, type := 0, pos := "exact.go:6906", after := #[], guard := none }) rfl (fun K hK => ?_) AllReadyH.nil
  go_simp
  have hb : Below wd.heap.size wd (wd.alloc (.cells #[.slice none 0 0, .slice none 0 0, .slice none 0 0, .int .i64 0, .int .i64 0] 61)) := (Below.refl _ _).alloc (Nat.le_refl _) _
  obtain ⟨gD, hgD⟩ : ∃ g, g = wd.heap.size := ⟨_, rfl⟩
  have XD := Lib.hid (show Ret.Blk (wd.alloc (.cells #[.slice none 0 0, .slice none 0 0, .slice none 0 0, .int .i64 0, .int .i64 0] 61)) gD (dc (.slice none 0 0) (.slice none 0 0) (.slice none 0 0) 0 0) 61 from by rw [hgD]; exact Ret.Blk.new wd _ _)
  have HDW := Lib.hid (show w.heap.size ≤ gD from by rw [hgD]; exact BB.out.size)
  (first | replace HX := Lib.hid (show kD.In w.heap.size (wd.alloc (.cells #[.slice none 0 0, .slice none 0 0, .slice none 0 0, .int .i64 0, .int .i64 0] 61)).heap.size (wd.alloc (.cells #[.slice none 0 0, .slice none 0 0, .slice none 0 0, .int .i64 0, .int .i64 0] 61)) (.agg #[.slice ya ma da, .slice yb mb db, .slice yc mc dc_, .int .i64 (Ring.sgK l0 l2 l1 (digK l0 l1) a3).2.2.2.1, .int .i64 (Ring.sgK l0 l2 l1 (digK l0 l1) a3).2.2.2.2]) (Ring.sgK l0 l2 l1 (digK l0 l1) a3) from Kd.In.mono (Kd.In.on HX.out hb) (Nat.le_refl _) hb.size) | skip)
  rw [← hgD]
  clear hgD
  replace BB := Lib.hid (BB.out.trans (hb.mono BB.out.size))
  clear hb
  generalize wd.alloc (.cells #[.slice none 0 0, .slice none 0 0, .slice none 0 0, .int .i64 0, .int .i64 0] 61) = wn19 at *
  clear hHeld
  refine hK.out _ _ ?_ (fun hHeld => ?_)
  · (try dsimp only); exact ⟨kc KN.out BB.out, kc KK.out BB.out⟩
  clear hK K
  (try simp only [Act.put, List.setIfInBounds_toArray, List.set_cons_zero, List.set_cons_succ])
  refine wpAnyH_ready (rs := [1]) (by kernel_rfl) (by simp) ?_
  refine AllReadyH.cons (o := { dst := some 121, op := Op.call { callee := Callee.value (Operand.func 16), args := #[Operand.tmp 120], argTypes := #[22] }, type := 30, pos := "exact.go:6906", after := #[{ on := 0, ground := Ground.data }], guard := none }) rfl (fun K hK => ?_) AllReadyH.nil
  go_simp
  refine (Ring.toKK _ l0 _ (H0.out.on BB.out) (by omega)).mono ?_
  rintro e wn20 ⟨v, rfl, ho, hb⟩
  obtain ⟨xA, nA, cA, rfl, ho⟩ := Ring.kK_shape ho
  have HA := Lib.hid ho.at; clear ho
  replace XD := Lib.hid (XD.out.on hb)
  replace BB := Lib.hid (BB.out.trans (hb.mono BB.out.size))
  clear hb
  (try go_wp2_with fail)
  clear hHeld
  refine hK.out _ _ ?_ (fun hHeld => ?_)
  · (try dsimp only); exact ⟨kc KN.out BB.out, kc KK.out BB.out⟩
  clear hK K
  (try simp only [Act.put, List.setIfInBounds_toArray, List.set_cons_zero, List.set_cons_succ])
  refine wpAnyH_ready (rs := [3]) (by kernel_rfl) (by simp) ?_
  refine AllReadyH.cons (o := { dst := some 123, op := Op.call { callee := Callee.value (Operand.func 17), args := #[Operand.tmp 122], argTypes := #[41] }, type := 47, pos := "exact.go:6906", after := #[{ on := 2, ground := Ground.data }, { on := 1, ground := Ground.chain }], guard := none }) rfl (fun K hK => ?_) AllReadyH.nil
  go_simp
  refine (toNK _ l1 _ (H1.out.on BB.out) (by have := Row.bulk_len l1; omega)).mono ?_
  rintro e wn21 ⟨v, rfl, ho, hb⟩
  obtain ⟨xB, nB, cB, rfl, ho⟩ := kN_shape ho
  have HBk := Lib.hid ho.at; clear ho
  replace XD := Lib.hid (XD.out.on hb)
  replace HA := Lib.hid (HA.out.on hb)
  replace BB := Lib.hid (BB.out.trans (hb.mono BB.out.size))
  clear hb
  (try go_wp2_with fail)
  clear hHeld
  refine hK.out _ _ ?_ (fun hHeld => ?_)
  · (try dsimp only); exact ⟨kc KN.out BB.out, kc KK.out BB.out⟩
  clear hK K
  (try simp only [Act.put, List.setIfInBounds_toArray, List.set_cons_zero, List.set_cons_succ])
  refine wpAnyH_ready (rs := [5]) (by kernel_rfl) (by simp) ?_
  refine AllReadyH.cons (o := { dst := some 125, op := Op.call { callee := Callee.value (Operand.func 17), args := #[Operand.tmp 124], argTypes := #[41] }, type := 47, pos := "exact.go:6906", after := #[{ on := 4, ground := Ground.data }, { on := 3, ground := Ground.chain }], guard := none }) rfl (fun K hK => ?_) AllReadyH.nil
  go_simp
  refine (toNK _ l2 _ (H2.out.on BB.out) (by have := Row.bulk_len l2; omega)).mono ?_
  rintro e wn22 ⟨v, rfl, ho, hb⟩
  obtain ⟨xC, nC, cC, rfl, ho⟩ := kN_shape ho
  have HC := Lib.hid ho.at; clear ho
  replace XD := Lib.hid (XD.out.on hb)
  replace HA := Lib.hid (HA.out.on hb)
  replace HBk := Lib.hid (HBk.out.on hb)
  replace BB := Lib.hid (BB.out.trans (hb.mono BB.out.size))
  clear hb
  (try go_wp2_with fail)
  clear hHeld
  refine hK.out _ _ ?_ (fun hHeld => ?_)
  · (try dsimp only); exact ⟨kc KN.out BB.out, kc KK.out BB.out⟩
  clear hK K
  (try simp only [Act.put, List.setIfInBounds_toArray, List.set_cons_zero, List.set_cons_succ])
  refine wpAnyH_ready (rs := [7]) (by kernel_rfl) (by simp) ?_
  refine AllReadyH.cons (o := { dst := some 127, op := Op.call { callee := Callee.value (Operand.func 31), args := #[Operand.tmp 121, Operand.tmp 123, Operand.tmp 125, Operand.tmp 126], argTypes := #[30, 47, 47, 3] }, type := 62, pos := "exact.go:6906", after := #[{ on := 1, ground := Ground.data }, { on := 3, ground := Ground.data }, { on := 5, ground := Ground.data }, { on := 6, ground := Ground.data }, { on := 5, ground := Ground.chain }], guard := none }) rfl (fun K hK => ?_) AllReadyH.nil
  go_simp
  refine (implIssueCertificate _ _ _ l0 l1 l2 a3 _ HA.out HBk.out HC.out (by omega) (by omega) (by omega)).mono ?_
  rintro e wn23 ⟨v, rfl, ho, hb⟩
  obtain ⟨ya, ma, da, yb, mb, db, yc, mc, dc_, rfl, ho⟩ := kD_shape ho
  have HX := Lib.hid (show kD.In w.heap.size wn23.heap.size wn23 (.agg #[.slice ya ma da, .slice yb mb db, .slice yc mc dc_, .int .i64 (Ring.sgK l0 l2 l1 (digK l0 l1) a3).2.2.2.1, .int .i64 (Ring.sgK l0 l2 l1 (digK l0 l1) a3).2.2.2.2]) (Ring.sgK l0 l2 l1 (digK l0 l1) a3) from Kd.In.mono ho BB.out.size (Nat.le_refl _)); clear ho
  replace XD := Lib.hid (XD.out.on hb)
  replace HA := Lib.hid (HA.out.on hb)
  replace HBk := Lib.hid (HBk.out.on hb)
  replace HC := Lib.hid (HC.out.on hb)
  replace BB := Lib.hid (BB.out.trans (hb.mono BB.out.size))
  clear hb
  (try go_wp2_with fail)
  clear hHeld
  refine hK.out _ _ ?_ (fun hHeld => ?_)
  · (try dsimp only); exact ⟨kc KN.out BB.out, kc KK.out BB.out⟩
  clear hK K
  (try simp only [Act.put, List.setIfInBounds_toArray, List.set_cons_zero, List.set_cons_succ])
  refine wpAnyH_take (i := 8) (oi := { dst := some 119, op := Op.move (Operand.tmp 127), type := 62, pos := "exact.go:6906", after := #[{ on := 7, ground := Ground.data }], guard := none }) (v := ?_) rfl (by kernel_rfl) (by kernel_rfl) (by kernel_rfl) (fun _ _ _ h => h) (Or.inl ⟨by rfl, ?_⟩) (by assumption) ?_
  rotate_left
  · intro w' hSw; (try dsimp only at hSw); first | (go_simp; done) | (go_simp; with_reducible rfl)
  (try simp only [Act.put, List.setIfInBounds_toArray, List.set_cons_zero, List.set_cons_succ])
  refine wpAnyH_take (i := 9) (oi := { dst := some 128, op := Op.extract (Operand.tmp 119) 0, type := 61, pos := "exact.go:6906", after := #[{ on := 8, ground := Ground.data }], guard := none }) (v := ?_) rfl (by kernel_rfl) (by kernel_rfl) (by kernel_rfl) (fun _ _ _ h => h) (Or.inl ⟨by rfl, ?_⟩) (by assumption) ?_
  rotate_left
  · intro w' hSw; (try dsimp only at hSw); first | (go_simp; done) | (go_simp; with_reducible rfl)
  (try simp only [Act.put, List.setIfInBounds_toArray, List.set_cons_zero, List.set_cons_succ])
  refine wpAnyH_take (i := 10) (oi := { dst := some 129, op := Op.extract (Operand.tmp 119) 1, type := 4, pos := "exact.go:6906", after := #[{ on := 8, ground := Ground.data }, { on := 12, ground := Ground.gcOnly Departure.lateStores }], guard := none }) (v := ?_) rfl (by kernel_rfl) (by kernel_rfl) (by kernel_rfl) (fun _ _ _ h => h) (Or.inl ⟨by rfl, ?_⟩) (by assumption) ?_
  rotate_left
  · intro w' hSw; (try dsimp only at hSw); first | (go_simp; done) | (go_simp; with_reducible rfl)
  (try simp only [Act.put, List.setIfInBounds_toArray, List.set_cons_zero, List.set_cons_succ])
  refine wpAnyH_ready (rs := [12]) (by kernel_rfl) (by simp) ?_
  refine AllReadyH.cons (o := { dst := none, op := Op.store 61 (Operand.tmp 20) (Operand.tmp 128), type := 0, pos := "exact.go:6906", after := #[{ on := 11, ground := Ground.data }, { on := 9, ground := Ground.data }, { on := 7, ground := Ground.chain }, { on := 0, ground := Ground.phase }, { on := 1, ground := Ground.phase }, { on := 2, ground := Ground.phase }, { on := 3, ground := Ground.phase }, { on := 4, ground := Ground.phase }, { on := 5, ground := Ground.phase }, { on := 6, ground := Ground.phase }, { on := 7, ground := Ground.phase }, { on := 8, ground := Ground.phase }, { on := 9, ground := Ground.phase }, { on := 10, ground := Ground.textOnly Departure.lateStores }, { on := 11, ground := Ground.phase }], guard := none }) rfl (fun K hK => ?_) AllReadyH.nil
  obtain ⟨r0, r1, r2, r3, r4⟩ := cells5_11 XD.out
  obtain ⟨t0, t1, t2, t3, t4⟩ := froz5_11 XD.out
  go_simp
  clear hHeld
  refine hK.out _ _ ?_ (fun hHeld => ?_)
  · (try dsimp only); exact ⟨cell_five11 (kc KN.out BB.out) (by have h1 : p < w.heap.size := cell_lt KN.out; have h2 := HDW.out; omega), cell_five11 (kc KK.out BB.out) (by have h1 : q < w.heap.size := cell_lt KK.out; have h2 := HDW.out; omega)⟩
  clear hK K
  (try simp only [Act.put, List.setIfInBounds_toArray, List.set_cons_zero, List.set_cons_succ])
  refine wpAnyH_take (i := 13) (oi := { dst := some 21, op := Op.assign (Operand.tmp 129), type := 4, pos := "exact.go:6906", after := #[{ on := 10, ground := Ground.data }, { on := 12, ground := Ground.chain }, { on := 0, ground := Ground.phase }, { on := 1, ground := Ground.phase }, { on := 2, ground := Ground.phase }, { on := 3, ground := Ground.phase }, { on := 4, ground := Ground.phase }, { on := 5, ground := Ground.phase }, { on := 6, ground := Ground.phase }, { on := 7, ground := Ground.phase }, { on := 8, ground := Ground.phase }, { on := 9, ground := Ground.phase }, { on := 10, ground := Ground.phase }, { on := 11, ground := Ground.phase }, { on := 12, ground := Ground.phase }], guard := none }) (v := ?_) rfl (by kernel_rfl) (by kernel_rfl) (by kernel_rfl) (fun _ _ _ h => h) (Or.inl ⟨by rfl, ?_⟩) (by assumption) ?_
  rotate_left
  · intro w' hSw; (try dsimp only at hSw); first | (go_simp; done) | (go_simp; with_reducible rfl)
  (try simp only [Act.put, List.setIfInBounds_toArray, List.set_cons_zero, List.set_cons_succ])
  refine wpAnyH_done (by kernel_rfl) ?_ _
  exact NoPanic.normal (HQ.out _ _ _ _ _ _ _ _ _ _ _ gD ma da mb db mc dc_ ya yb yc _ HDW.out XD.out HX.out BB.out)

set_option maxRecDepth 100000 in
set_option maxHeartbeats 4000000 in
theorem implIS {Q : Exit → Act → World → Prop} {v1 v2 v4 v7 v8 v9 v10 v11 v12 v13 v14 v15 v16 v17 v18 v19 v20 v21 v22 v23 v24 v25 v26 v27 v28 v29 v30 v31 v32 v33 v34 v35 v36 v37 v38 v39 v40 v41 v42 v43 v44 v45 v46 v47 v48 v49 v50 v51 v52 v53 v54 v55 v56 v57 v58 v59 v60 v61 v62 v63 v64 v65 v66 v67 v68 v69 v70 v71 v72 v73 v74 v75 v76 v77 v78 v79 v80 v81 v82 v83 v84 v85 v86 v87 v88 v89 v90 v91 v92 v93 v94 v95 v96 v97 v98 v99 v100 v101 v102 v103 v104 v105 v106 v107 v108 v109 v110 v111 v112 v113 v114 v115 v116 v117 v118 v119 v120 v121 v122 v123 v124 v125 v126 v127 v128 v129 v130 v131 v132 v133 v134 v135 v136 v137 v138 v139 v140 v141 v142 v143 v144 v145 v146 : Value} {w : World} {p q nl cl nk ck nn cn : Nat} {xl xk xn : Option Addr} {l0 : Ring.Kt} {l1 l2 : List ByteArray} {a3 : Int} (H0 : Hid (Ring.kK.At w (.slice xl nl cl) l0)) (H1 : Hid (kN.At w (.agg #[.slice xn nn cn]) l1)) (H2 : Hid (kN.At w (.agg #[.slice xk nk ck]) l2)) (Z0 : Ring.bulkT l0 ≤ 1048576) (Z1 : bulk l1 ≤ 1048576) (Z2 : bulk l2 ≤ 1048576) (KN : Hid (w.cell? ⟨p, 0, none⟩ = some (.slice xn nn cn))) (KK : Hid (w.cell? ⟨q, 0, none⟩ = some (.slice xk nk ck)))
    (hQ : ∀ (u119 u120 u121 u122 u123 u124 u125 u126 u127 u128 u129 : Value) (gD ma da mb db mc dc_ : Nat) (ya yb yc : Option Addr) (w2 : World), Below w.heap.size w w2 → kD.In w.heap.size w2.heap.size w2 (.agg #[.slice ya ma da, .slice yb mb db, .slice yc mc dc_, .int .i64 (Ring.sgK l0 l2 l1 (digK l0 l1) a3).2.2.2.1, .int .i64 (Ring.sgK l0 l2 l1 (digK l0 l1) a3).2.2.2.2]) (Ring.sgK l0 l2 l1 (digK l0 l1) a3) → Ret.Blk w2 gD #[.slice ya ma da, .slice yb mb db, .slice yc mc dc_, .int .i64 (Ring.sgK l0 l2 l1 (digK l0 l1) a3).2.2.2.1, .int .i64 (Ring.sgK l0 l2 l1 (digK l0 l1) a3).2.2.2.2] 61 → w.heap.size ≤ gD → gD < w2.heap.size → Q .normal ⟨#[.slice xl nl cl, v1, v2, .int .i64 a3, v4, .pointer (some ⟨p, 0, none⟩), .pointer (some ⟨q, 0, none⟩), v7, v8, v9, v10, v11, v12, v13, v14, v15, v16, v17, v18, v19, .pointer (some ⟨gD, 0, none⟩), .bool (Ring.sgOk l0 l2 l1 (digK l0 l1) a3), v22, v23, v24, v25, v26, v27, v28, v29, v30, v31, v32, v33, v34, v35, v36, v37, v38, v39, v40, v41, v42, v43, v44, v45, v46, v47, v48, v49, v50, v51, v52, v53, v54, v55, v56, v57, v58, v59, v60, v61, v62, v63, v64, v65, v66, v67, v68, v69, v70, v71, v72, v73, v74, v75, v76, v77, v78, v79, v80, v81, v82, v83, v84, v85, v86, v87, v88, v89, v90, v91, v92, v93, v94, v95, v96, v97, v98, v99, v100, v101, v102, v103, v104, v105, v106, v107, v108, v109, v110, v111, v112, v113, v114, v115, v116, v117, v118, u119, u120, u121, u122, u123, u124, u125, u126, u127, u128, u129, v130, v131, v132, v133, v134, v135, v136, v137, v138, v139, v140, v141, v142, v143, v144, v145, v146], []⟩ w2) :
    (Code.region 38 #[{ dst := some 120, op := Op.move (Operand.tmp 0), type := 22, pos := "exact.go:6906", after := #[], guard := none },
      { dst := some 121, op := Op.call { callee := Callee.value (Operand.func 16), args := #[Operand.tmp 120], argTypes := #[22] }, type := 30, pos := "exact.go:6906", after := #[{ on := 0, ground := Ground.data }], guard := none },
      { dst := some 122, op := Op.load 41 (Operand.tmp 5), type := 41, pos := "exact.go:6906", after := #[], guard := none },
      { dst := some 123, op := Op.call { callee := Callee.value (Operand.func 17), args := #[Operand.tmp 122], argTypes := #[41] }, type := 47, pos := "exact.go:6906", after := #[{ on := 2, ground := Ground.data }, { on := 1, ground := Ground.chain }], guard := none },
      { dst := some 124, op := Op.load 41 (Operand.tmp 6), type := 41, pos := "exact.go:6906", after := #[], guard := none },
      { dst := some 125, op := Op.call { callee := Callee.value (Operand.func 17), args := #[Operand.tmp 124], argTypes := #[41] }, type := 47, pos := "exact.go:6906", after := #[{ on := 4, ground := Ground.data }, { on := 3, ground := Ground.chain }], guard := none },
      { dst := some 126, op := Op.move (Operand.tmp 3), type := 3, pos := "exact.go:6906", after := #[], guard := none },
      { dst := some 127, op := Op.call { callee := Callee.value (Operand.func 31), args := #[Operand.tmp 121, Operand.tmp 123, Operand.tmp 125, Operand.tmp 126], argTypes := #[30, 47, 47, 3] }, type := 62, pos := "exact.go:6906", after := #[{ on := 1, ground := Ground.data }, { on := 3, ground := Ground.data }, { on := 5, ground := Ground.data }, { on := 6, ground := Ground.data }, { on := 5, ground := Ground.chain }], guard := none },
      { dst := some 119, op := Op.move (Operand.tmp 127), type := 62, pos := "exact.go:6906", after := #[{ on := 7, ground := Ground.data }], guard := none },
      { dst := some 128, op := Op.extract (Operand.tmp 119) 0, type := 61, pos := "exact.go:6906", after := #[{ on := 8, ground := Ground.data }], guard := none },
      { dst := some 129, op := Op.extract (Operand.tmp 119) 1, type := 4, pos := "exact.go:6906", after := #[{ on := 8, ground := Ground.data }, { on := 12, ground := Ground.gcOnly Departure.lateStores }], guard := none },
      { dst := some 20, op := Op.alloc 61, type := 0, pos := "exact.go:6906", after := #[], guard := none },
      { dst := none, op := Op.store 61 (Operand.tmp 20) (Operand.tmp 128), type := 0, pos := "exact.go:6906", after := #[{ on := 11, ground := Ground.data }, { on := 9, ground := Ground.data }, { on := 7, ground := Ground.chain }, { on := 0, ground := Ground.phase }, { on := 1, ground := Ground.phase }, { on := 2, ground := Ground.phase }, { on := 3, ground := Ground.phase }, { on := 4, ground := Ground.phase }, { on := 5, ground := Ground.phase }, { on := 6, ground := Ground.phase }, { on := 7, ground := Ground.phase }, { on := 8, ground := Ground.phase }, { on := 9, ground := Ground.phase }, { on := 10, ground := Ground.textOnly Departure.lateStores }, { on := 11, ground := Ground.phase }], guard := none },
      { dst := some 21, op := Op.assign (Operand.tmp 129), type := 4, pos := "exact.go:6906", after := #[{ on := 10, ground := Ground.data }, { on := 12, ground := Ground.chain }, { on := 0, ground := Ground.phase }, { on := 1, ground := Ground.phase }, { on := 2, ground := Ground.phase }, { on := 3, ground := Ground.phase }, { on := 4, ground := Ground.phase }, { on := 5, ground := Ground.phase }, { on := 6, ground := Ground.phase }, { on := 7, ground := Ground.phase }, { on := 8, ground := Ground.phase }, { on := 9, ground := Ground.phase }, { on := 10, ground := Ground.phase }, { on := 11, ground := Ground.phase }, { on := 12, ground := Ground.phase }], guard := none }] true).wp Try.prog Q ⟨#[.slice xl nl cl, v1, v2, .int .i64 a3, v4, .pointer (some ⟨p, 0, none⟩), .pointer (some ⟨q, 0, none⟩), v7, v8, v9, v10, v11, v12, v13, v14, v15, v16, v17, v18, v19, v20, v21, v22, v23, v24, v25, v26, v27, v28, v29, v30, v31, v32, v33, v34, v35, v36, v37, v38, v39, v40, v41, v42, v43, v44, v45, v46, v47, v48, v49, v50, v51, v52, v53, v54, v55, v56, v57, v58, v59, v60, v61, v62, v63, v64, v65, v66, v67, v68, v69, v70, v71, v72, v73, v74, v75, v76, v77, v78, v79, v80, v81, v82, v83, v84, v85, v86, v87, v88, v89, v90, v91, v92, v93, v94, v95, v96, v97, v98, v99, v100, v101, v102, v103, v104, v105, v106, v107, v108, v109, v110, v111, v112, v113, v114, v115, v116, v117, v118, v119, v120, v121, v122, v123, v124, v125, v126, v127, v128, v129, v130, v131, v132, v133, v134, v135, v136, v137, v138, v139, v140, v141, v142, v143, v144, v145, v146], []⟩ w := by
  refine implIS0 H0 H1 H2 Z0 Z1 Z2 KN KK ?_
  intro u119 u120 u121 u122 u123 u124 u125 u126 u127 u128 u129 gD ma da mb db mc dc_ ya yb yc wx hgd hxd hin hb
  obtain ⟨h1, h2, h3⟩ := five_facts11 hgd (Nat.le_refl _) hxd hin hb
  exact hQ _ _ _ _ _ _ _ _ _ _ _ _ _ _ _ _ _ _ _ _ _ _ h1 h2 h3 hgd (by rw [size_five11]; exact hxd.lt)

end Go.Proofs.Ytcidfmmeonhkhaa.Row
