/- Contracts and mathematics, joined: RegU16. No conditions but those that each states. -/
import Derived.WalkKit
import Derived.Deep.RegionHeld3
import Derived.Test.YtkojeajjappchaaGreatB16
/- The region of FnRules that draws: whatever order is drawn, its last value is true. No conditions. -/
namespace Go.Proofs.YtkojeajjappchaaGreat.Row
open Go.ChangeShapes Go.WideShapes Go.ChangeAt Go.RowKit Go.Instr
set_option linter.unusedVariables false
set_option maxRecDepth 100000

set_option maxRecDepth 100000 in
set_option maxHeartbeats 4000000 in
theorem regU16ni {Q : Exit → Act → World → Prop} {v0 v1 v2 v3 v4 v5 v9 v10 v11 v12 v13 v15 v16 v18 v19 v20 v21 v22 v23 v24 v25 v26 v27 v28 v29 v30 v31 v32 v33 v34 v35 v36 v37 v38 v39 v40 v41 v42 v43 v44 v45 v46 v47 v48 v49 v50 v51 v52 v53 v54 v55 v56 v57 v58 v59 v60 v61 v62 v63 v64 v65 v66 v67 v68 v69 v70 v71 v72 v73 v74 v75 v76 v77 v78 v79 v80 v81 v82 v83 v84 v85 v86 v87 v88 v89 v90 v91 v92 v93 v94 v95 v96 v97 v98 v99 v100 v101 v102 v103 v104 v105 v106 v107 v108 v109 v110 v111 v112 v113 v114 v115 v116 v117 v118 v119 v120 v121 v122 v123 v124 v125 v126 v127 v128 v129 v130 v131 v132 v133 v134 v135 v136 v137 v138 v139 v140 v141 v142 v143 v144 v145 v146 v147 v148 v149 v150 v151 v152 v153 v154 v155 v156 v157 v158 v159 v160 v161 v162 v163 v164 v165 v166 v167 v168 v169 v170 v171 v172 v173 v174 v175 v176 v177 v178 v179 v180 v181 v182 v183 v184 : Value} {w : World} {bm bv bt : Nat} {k : Int}  {lm lw : List ByteArray} {tt : Rlt} {tl : List Rlt} {x_m : Option Addr} {n_m c_m : Nat} {x_v : Option Addr} {n_v c_v : Nat} {x_ta : Option Addr} {n_ta c_ta : Nat} {x_tb : Option Addr} {n_tb c_tb : Nat} {x_l : Option Addr} {n_l c_l : Nat} (H_m : Hid (kN.At w (.agg #[.slice x_m n_m c_m]) lm)) (H_v : Hid (kN.At w (.agg #[.slice x_v n_v c_v]) lw)) (H_t : Hid (kRl.At w (.agg #[.slice x_ta n_ta c_ta, .slice x_tb n_tb c_tb]) tt)) (H_l : Hid (kLRl.At w (.slice x_l n_l c_l) tl)) (hk : k < 0) (hk0 : ¬ 0 ≤ k) (HA : Hid (decide (0 ≤ firstR tl lm lw) = false)) (HV : Hid (validR tt = false)) (HRL : Hid (RL10 tl)) (h1 : bulk lm ≤ 1000) (h2 : bulk lw ≤ 1000) (h3 : wtRl tt ≤ 9000000) (K0_m : Hid (w.cell? ⟨bm, 0, none⟩ = some (.slice x_m n_m c_m))) (K0_v : Hid (w.cell? ⟨bv, 0, none⟩ = some (.slice x_v n_v c_v))) (K0_t : Hid (w.cell? ⟨bt, 0, none⟩ = some (.slice x_ta n_ta c_ta))) (K1_t : Hid (w.cell? ⟨bt, 1, none⟩ = some (.slice x_tb n_tb c_tb)))
    (hQ : ∀ (u152 u153 u154 u155 u156 u157 u158 u159 u160 u161 u162 u163 u164 u165 u166 u167 u168 u169 u170 u171 u172 u173 u174 u175 u176 u177 u178 u179 u180 u181 u182 u183 u184 : Value)  (wx : World), Below w.heap.size w wx → Q .normal ⟨#[v0, v1, .bool true, v3, v4, v5, .slice x_l n_l c_l, .pointer (some ⟨bm, 0, none⟩), .pointer (some ⟨bv, 0, none⟩), v9, v10, v11, v12, v13, .pointer (some ⟨bt, 0, none⟩), v15, v16, .int .i64 k, v18, v19, v20, v21, v22, v23, v24, v25, v26, v27, v28, v29, v30, v31, v32, v33, v34, v35, v36, v37, v38, v39, v40, v41, v42, v43, v44, v45, v46, v47, v48, v49, v50, v51, v52, v53, v54, v55, v56, v57, v58, v59, v60, v61, v62, v63, v64, v65, v66, v67, v68, v69, v70, v71, v72, v73, v74, v75, v76, v77, v78, v79, v80, v81, v82, v83, v84, v85, v86, v87, v88, v89, v90, v91, v92, v93, v94, v95, v96, v97, v98, v99, v100, v101, v102, v103, v104, v105, v106, v107, v108, v109, v110, v111, v112, v113, v114, v115, v116, v117, v118, v119, v120, v121, v122, v123, v124, v125, v126, v127, v128, v129, v130, v131, v132, v133, v134, v135, v136, v137, v138, v139, v140, v141, v142, v143, v144, v145, v146, v147, v148, v149, v150, v151, u152, u153, u154, u155, u156, u157, u158, u159, u160, u161, u162, u163, u164, u165, u166, u167, u168, u169, u170, u171, u172, u173, u174, u175, u176, u177, u178, u179, u180, u181, u182, u183, u184], []⟩ wx) :
    (Code.region 16 #[{ dst := some 152, op := Op.move (Operand.tmp 6), type := 32, pos := "laws.go:681", after := #[], guard := none },
      { dst := some 153, op := Op.load 29 (Operand.tmp 7), type := 29, pos := "laws.go:681", after := #[], guard := none },
      { dst := some 154, op := Op.load 29 (Operand.tmp 8), type := 29, pos := "laws.go:681", after := #[], guard := none },
      { dst := some 155, op := Op.call { callee := Callee.value (Operand.func 15), args := #[Operand.tmp 152, Operand.tmp 153, Operand.tmp 154], argTypes := #[32, 29, 29] }, type := 4, pos := "laws.go:681", after := #[{ on := 0, ground := Ground.data }, { on := 1, ground := Ground.data }, { on := 2, ground := Ground.data }], guard := none },
      { dst := some 156, op := Op.move (Operand.tmp 17), type := 3, pos := "laws.go:681", after := #[], guard := none },
      { dst := some 157, op := Op.binOp BinOp.geq 3 (Operand.tmp 156) (Operand.const (Value.int IntKind.i64 0)) 3, type := 4, pos := "laws.go:681", after := #[{ on := 4, ground := Ground.data }], guard := none },
      { dst := some 158, op := Op.binOp BinOp.eql 4 (Operand.tmp 155) (Operand.tmp 157) 4, type := 4, pos := "laws.go:681", after := #[{ on := 3, ground := Ground.data }, { on := 5, ground := Ground.data }], guard := none },
      { dst := some 159, op := Op.move (Operand.tmp 158), type := 4, pos := "laws.go:681", after := #[{ on := 6, ground := Ground.data }, { on := 3, ground := Ground.chain }], guard := none },
      { dst := some 160, op := Op.move (Operand.tmp 17), type := 3, pos := "laws.go:681", after := #[{ on := 7, ground := Ground.guard }], guard := some (7, true) },
      { dst := some 161, op := Op.binOp BinOp.lss 3 (Operand.tmp 160) (Operand.const (Value.int IntKind.i64 0)) 3, type := 4, pos := "laws.go:681", after := #[{ on := 8, ground := Ground.data }, { on := 7, ground := Ground.guard }], guard := some (7, true) },
      { dst := some 162, op := Op.move (Operand.tmp 161), type := 4, pos := "laws.go:681", after := #[{ on := 9, ground := Ground.data }, { on := 7, ground := Ground.chain }, { on := 7, ground := Ground.guard }], guard := some (7, true) },
      { dst := some 163, op := Op.move (Operand.tmp 6), type := 32, pos := "laws.go:681", after := #[{ on := 10, ground := Ground.guard }], guard := some (10, false) },
      { dst := some 164, op := Op.move (Operand.tmp 17), type := 3, pos := "laws.go:681", after := #[{ on := 10, ground := Ground.guard }], guard := some (10, false) },
      { dst := some 165, op := Op.indexAddr 32 (Operand.tmp 163) (Operand.tmp 164), type := 0, pos := "laws.go:681", after := #[{ on := 11, ground := Ground.data }, { on := 12, ground := Ground.data }, { on := 10, ground := Ground.guard }], guard := some (10, false) },
      { dst := some 166, op := Op.load 28 (Operand.tmp 165), type := 28, pos := "laws.go:681", after := #[{ on := 13, ground := Ground.data }, { on := 10, ground := Ground.guard }], guard := some (10, false) },
      { dst := some 167, op := Op.load 29 (Operand.tmp 7), type := 29, pos := "laws.go:681", after := #[{ on := 10, ground := Ground.guard }], guard := some (10, false) },
      { dst := some 168, op := Op.load 29 (Operand.tmp 8), type := 29, pos := "laws.go:681", after := #[{ on := 10, ground := Ground.guard }], guard := some (10, false) },
      { dst := some 169, op := Op.call { callee := Callee.value (Operand.func 13), args := #[Operand.tmp 166, Operand.tmp 167, Operand.tmp 168], argTypes := #[28, 29, 29] }, type := 4, pos := "laws.go:681", after := #[{ on := 14, ground := Ground.data }, { on := 15, ground := Ground.data }, { on := 16, ground := Ground.data }, { on := 10, ground := Ground.chain }, { on := 10, ground := Ground.guard }], guard := some (10, false) },
      { dst := some 170, op := Op.pick (Operand.tmp 162) (Operand.const (Value.bool true)) (Operand.tmp 169), type := 4, pos := "laws.go:681", after := #[{ on := 10, ground := Ground.data }, { on := 17, ground := Ground.data }, { on := 7, ground := Ground.guard }], guard := some (7, true) },
      { dst := some 171, op := Op.pick (Operand.tmp 159) (Operand.tmp 170) (Operand.const (Value.bool false)), type := 4, pos := "laws.go:681", after := #[{ on := 7, ground := Ground.data }, { on := 18, ground := Ground.data }], guard := none },
      { dst := some 172, op := Op.move (Operand.tmp 171), type := 4, pos := "laws.go:681", after := #[{ on := 19, ground := Ground.data }, { on := 17, ground := Ground.chain }], guard := none },
      { dst := some 173, op := Op.load 28 (Operand.tmp 14), type := 28, pos := "laws.go:681", after := #[{ on := 20, ground := Ground.guard }], guard := some (20, true) },
      { dst := some 174, op := Op.call { callee := Callee.value (Operand.func 24), args := #[Operand.tmp 173], argTypes := #[28] }, type := 4, pos := "laws.go:681", after := #[{ on := 21, ground := Ground.data }, { on := 20, ground := Ground.chain }, { on := 20, ground := Ground.guard }], guard := some (20, true) },
      { dst := some 175, op := Op.unOp UnOp.not 4 (Operand.tmp 174), type := 4, pos := "laws.go:681", after := #[{ on := 22, ground := Ground.data }, { on := 20, ground := Ground.guard }], guard := some (20, true) },
      { dst := some 176, op := Op.move (Operand.tmp 175), type := 4, pos := "laws.go:681", after := #[{ on := 23, ground := Ground.data }, { on := 22, ground := Ground.chain }, { on := 20, ground := Ground.guard }], guard := some (20, true) },
      { dst := some 177, op := Op.move (Operand.tmp 19), type := 4, pos := "laws.go:681", after := #[{ on := 24, ground := Ground.guard }], guard := some (24, false) },
      { dst := some 178, op := Op.move (Operand.tmp 177), type := 4, pos := "laws.go:681", after := #[{ on := 25, ground := Ground.data }, { on := 24, ground := Ground.chain }, { on := 24, ground := Ground.guard }], guard := some (24, false) },
      { dst := some 179, op := Op.load 28 (Operand.tmp 18), type := 28, pos := "laws.go:681", after := #[{ on := 26, ground := Ground.guard }], guard := some (26, true) },
      { dst := some 180, op := Op.load 28 (Operand.tmp 14), type := 28, pos := "laws.go:681", after := #[{ on := 26, ground := Ground.guard }], guard := some (26, true) },
      { dst := some 181, op := Op.call { callee := Callee.value (Operand.func 20), args := #[Operand.tmp 179, Operand.tmp 180], argTypes := #[28, 28] }, type := 4, pos := "laws.go:681", after := #[{ on := 27, ground := Ground.data }, { on := 28, ground := Ground.data }, { on := 26, ground := Ground.chain }, { on := 26, ground := Ground.guard }], guard := some (26, true) },
      { dst := some 182, op := Op.pick (Operand.tmp 178) (Operand.tmp 181) (Operand.const (Value.bool false)), type := 4, pos := "laws.go:681", after := #[{ on := 26, ground := Ground.data }, { on := 29, ground := Ground.data }, { on := 24, ground := Ground.guard }], guard := some (24, false) },
      { dst := some 183, op := Op.pick (Operand.tmp 176) (Operand.const (Value.bool true)) (Operand.tmp 182), type := 4, pos := "laws.go:681", after := #[{ on := 24, ground := Ground.data }, { on := 30, ground := Ground.data }, { on := 20, ground := Ground.guard }], guard := some (20, true) },
      { dst := some 184, op := Op.pick (Operand.tmp 172) (Operand.tmp 183) (Operand.const (Value.bool false)), type := 4, pos := "laws.go:681", after := #[{ on := 20, ground := Ground.data }, { on := 31, ground := Ground.data }], guard := none },
      { dst := some 2, op := Op.assign (Operand.tmp 184), type := 4, pos := "laws.go:681", after := #[{ on := 32, ground := Ground.data }, { on := 29, ground := Ground.chain }, { on := 0, ground := Ground.phase }, { on := 1, ground := Ground.phase }, { on := 2, ground := Ground.phase }, { on := 3, ground := Ground.phase }, { on := 4, ground := Ground.phase }, { on := 5, ground := Ground.phase }, { on := 6, ground := Ground.phase }, { on := 7, ground := Ground.phase }, { on := 8, ground := Ground.phase }, { on := 9, ground := Ground.phase }, { on := 10, ground := Ground.phase }, { on := 11, ground := Ground.phase }, { on := 12, ground := Ground.phase }, { on := 13, ground := Ground.phase }, { on := 14, ground := Ground.phase }, { on := 15, ground := Ground.phase }, { on := 16, ground := Ground.phase }, { on := 17, ground := Ground.phase }, { on := 18, ground := Ground.phase }, { on := 19, ground := Ground.phase }, { on := 20, ground := Ground.phase }, { on := 21, ground := Ground.phase }, { on := 22, ground := Ground.phase }, { on := 23, ground := Ground.phase }, { on := 24, ground := Ground.phase }, { on := 25, ground := Ground.phase }, { on := 26, ground := Ground.phase }, { on := 27, ground := Ground.phase }, { on := 28, ground := Ground.phase }, { on := 29, ground := Ground.phase }, { on := 30, ground := Ground.phase }, { on := 31, ground := Ground.phase }, { on := 32, ground := Ground.phase }], guard := none }] true).wp Tryz.prog Q ⟨#[v0, v1, v2, v3, v4, v5, .slice x_l n_l c_l, .pointer (some ⟨bm, 0, none⟩), .pointer (some ⟨bv, 0, none⟩), v9, v10, v11, v12, v13, .pointer (some ⟨bt, 0, none⟩), v15, v16, .int .i64 k, v18, v19, v20, v21, v22, v23, v24, v25, v26, v27, v28, v29, v30, v31, v32, v33, v34, v35, v36, v37, v38, v39, v40, v41, v42, v43, v44, v45, v46, v47, v48, v49, v50, v51, v52, v53, v54, v55, v56, v57, v58, v59, v60, v61, v62, v63, v64, v65, v66, v67, v68, v69, v70, v71, v72, v73, v74, v75, v76, v77, v78, v79, v80, v81, v82, v83, v84, v85, v86, v87, v88, v89, v90, v91, v92, v93, v94, v95, v96, v97, v98, v99, v100, v101, v102, v103, v104, v105, v106, v107, v108, v109, v110, v111, v112, v113, v114, v115, v116, v117, v118, v119, v120, v121, v122, v123, v124, v125, v126, v127, v128, v129, v130, v131, v132, v133, v134, v135, v136, v137, v138, v139, v140, v141, v142, v143, v144, v145, v146, v147, v148, v149, v150, v151, v152, v153, v154, v155, v156, v157, v158, v159, v160, v161, v162, v163, v164, v165, v166, v167, v168, v169, v170, v171, v172, v173, v174, v175, v176, v177, v178, v179, v180, v181, v182, v183, v184], []⟩ w := by
  have HQ := Lib.hid hQ; clear hQ
  have hdr : Below w.heap.size w w.drew := (Below.refl _ _).drew
  have BB := Lib.hid hdr
  refine wp_region_noPanic ?_
  refine wp_region_held_drew (S := (fun w' => w'.cell? ⟨bm, 0, none⟩ = some (.slice x_m n_m c_m) ∧ w'.cell? ⟨bv, 0, none⟩ = some (.slice x_v n_v c_v) ∧ w'.cell? ⟨bt, 0, none⟩ = some (.slice x_ta n_ta c_ta) ∧ w'.cell? ⟨bt, 1, none⟩ = some (.slice x_tb n_tb c_tb))) (by kernel_rfl) ?_ (fun hHeld => ?_)
  · exact ⟨kc K0_m.out BB.out, kc K0_v.out BB.out, kc K0_t.out BB.out, kc K1_t.out BB.out⟩
  clear hdr
  generalize w.drew = wd at *
  refine wpAnyH_take (i := 0) (oi := { dst := some 152, op := Op.move (Operand.tmp 6), type := 32, pos := "laws.go:681", after := #[], guard := none }) (v := ?_) rfl (by kernel_rfl) (by kernel_rfl) (by kernel_rfl) (fun _ _ _ h => h) (Or.inl ⟨by rfl, ?_⟩) (by assumption) ?_
  rotate_left
  · intro w' hSw; (try dsimp only at hSw); first | (go_simp; done) | (go_simp; with_reducible rfl)
  (try simp only [Act.put, List.setIfInBounds_toArray, List.set_cons_zero, List.set_cons_succ])
  refine wpAnyH_take (i := 1) (oi := { dst := some 153, op := Op.load 29 (Operand.tmp 7), type := 29, pos := "laws.go:681", after := #[], guard := none }) (v := ?_) rfl (by kernel_rfl) (by kernel_rfl) (by kernel_rfl) (fun _ _ _ h => h) (Or.inl ⟨by rfl, ?_⟩) (by assumption) ?_
  rotate_left
  · intro w' hSw; (try dsimp only at hSw); first | (go_simp; done) | (go_simp; with_reducible rfl)
  (try simp only [Act.put, List.setIfInBounds_toArray, List.set_cons_zero, List.set_cons_succ])
  refine wpAnyH_take (i := 2) (oi := { dst := some 154, op := Op.load 29 (Operand.tmp 8), type := 29, pos := "laws.go:681", after := #[], guard := none }) (v := ?_) rfl (by kernel_rfl) (by kernel_rfl) (by kernel_rfl) (fun _ _ _ h => h) (Or.inl ⟨by rfl, ?_⟩) (by assumption) ?_
  rotate_left
  · intro w' hSw; (try dsimp only at hSw); first | (go_simp; done) | (go_simp; with_reducible rfl)
  (try simp only [Act.put, List.setIfInBounds_toArray, List.set_cons_zero, List.set_cons_succ])
  refine wpAnyH_take (i := 4) (oi := { dst := some 156, op := Op.move (Operand.tmp 17), type := 3, pos := "laws.go:681", after := #[], guard := none }) (v := ?_) rfl (by kernel_rfl) (by kernel_rfl) (by kernel_rfl) (fun _ _ _ h => h) (Or.inl ⟨by rfl, ?_⟩) (by assumption) ?_
  rotate_left
  · intro w' hSw; (try dsimp only at hSw); first | (go_simp; done) | (go_simp; with_reducible rfl)
  (try simp only [Act.put, List.setIfInBounds_toArray, List.set_cons_zero, List.set_cons_succ])
  refine wpAnyH_take (i := 5) (oi := { dst := some 157, op := Op.binOp BinOp.geq 3 (Operand.tmp 156) (Operand.const (Value.int IntKind.i64 0)) 3, type := 4, pos := "laws.go:681", after := #[{ on := 4, ground := Ground.data }], guard := none }) (v := ?_) rfl (by kernel_rfl) (by kernel_rfl) (by kernel_rfl) (fun _ _ _ h => h) (Or.inl ⟨by rfl, ?_⟩) (by assumption) ?_
  rotate_left
  · intro w' hSw; (try dsimp only at hSw); first | (go_simp; done) | (go_simp; with_reducible rfl)
  (try simp only [Act.put, List.setIfInBounds_toArray, List.set_cons_zero, List.set_cons_succ])
  refine wpAnyH_ready (rs := [3]) (by kernel_rfl) (by simp) ?_
  refine AllReadyH.cons (o := { dst := some 155, op := Op.call { callee := Callee.value (Operand.func 15), args := #[Operand.tmp 152, Operand.tmp 153, Operand.tmp 154], argTypes := #[32, 29, 29] }, type := 4, pos := "laws.go:681", after := #[{ on := 0, ground := Ground.data }, { on := 1, ground := Ground.data }, { on := 2, ground := Ground.data }], guard := none }) rfl (fun K hK => ?_) AllReadyH.nil
  go_simp
  refine (iAlV false HA.out (H_l.out.on BB.out) (H_m.out.on BB.out) (H_v.out.on BB.out) HRL.out h1 h2).mono ?_
  rintro e wn1 ⟨rfl, hb⟩
  replace BB := Lib.hid (BB.out.trans (hb.mono BB.out.size))
  clear hb
  (try go_wp2_with fail)
  clear hHeld
  refine hK.out _ _ ?_ (fun hHeld => ?_)
  · (try dsimp only); exact ⟨kc K0_m.out BB.out, kc K0_v.out BB.out, kc K0_t.out BB.out, kc K1_t.out BB.out⟩
  clear hK K
  (try simp only [Act.put, List.setIfInBounds_toArray, List.set_cons_zero, List.set_cons_succ])
  refine wpAnyH_take (i := 6) (oi := { dst := some 158, op := Op.binOp BinOp.eql 4 (Operand.tmp 155) (Operand.tmp 157) 4, type := 4, pos := "laws.go:681", after := #[{ on := 3, ground := Ground.data }, { on := 5, ground := Ground.data }], guard := none }) (v := ?_) rfl (by kernel_rfl) (by kernel_rfl) (by kernel_rfl) (fun _ _ _ h => h) (Or.inl ⟨by rfl, ?_⟩) (by assumption) ?_
  rotate_left
  · intro w' hSw; (try dsimp only at hSw); first | (go_simp; done) | (go_simp; with_reducible rfl)
  (try simp only [Act.put, List.setIfInBounds_toArray, List.set_cons_zero, List.set_cons_succ])
  refine wpAnyH_take (i := 7) (oi := { dst := some 159, op := Op.move (Operand.tmp 158), type := 4, pos := "laws.go:681", after := #[{ on := 6, ground := Ground.data }, { on := 3, ground := Ground.chain }], guard := none }) (v := ?_) rfl (by kernel_rfl) (by kernel_rfl) (by kernel_rfl) (fun _ _ _ h => h) (Or.inl ⟨by rfl, ?_⟩) (by assumption) ?_
  rotate_left
  · intro w' hSw; (try dsimp only at hSw); first | (go_simp; done) | (go_simp; with_reducible rfl)
  (try simp only [Act.put, List.setIfInBounds_toArray, List.set_cons_zero, List.set_cons_succ])
  refine wpAnyH_take (i := 8) (oi := { dst := some 160, op := Op.move (Operand.tmp 17), type := 3, pos := "laws.go:681", after := #[{ on := 7, ground := Ground.guard }], guard := some (7, true) }) (v := ?_) rfl (by kernel_rfl) (by kernel_rfl) (by kernel_rfl) (fun _ _ _ h => h) (Or.inl ⟨by rfl, ?_⟩) (by assumption) ?_
  rotate_left
  · intro w' hSw; (try dsimp only at hSw); first | (go_simp; done) | (go_simp; with_reducible rfl)
  (try simp only [Act.put, List.setIfInBounds_toArray, List.set_cons_zero, List.set_cons_succ])
  refine wpAnyH_take (i := 9) (oi := { dst := some 161, op := Op.binOp BinOp.lss 3 (Operand.tmp 160) (Operand.const (Value.int IntKind.i64 0)) 3, type := 4, pos := "laws.go:681", after := #[{ on := 8, ground := Ground.data }, { on := 7, ground := Ground.guard }], guard := some (7, true) }) (v := ?_) rfl (by kernel_rfl) (by kernel_rfl) (by kernel_rfl) (fun _ _ _ h => h) (Or.inl ⟨by rfl, ?_⟩) (by assumption) ?_
  rotate_left
  · intro w' hSw; (try dsimp only at hSw); first | (go_simp; done) | (go_simp; with_reducible rfl)
  (try simp only [Act.put, List.setIfInBounds_toArray, List.set_cons_zero, List.set_cons_succ])
  refine wpAnyH_take (i := 10) (oi := { dst := some 162, op := Op.move (Operand.tmp 161), type := 4, pos := "laws.go:681", after := #[{ on := 9, ground := Ground.data }, { on := 7, ground := Ground.chain }, { on := 7, ground := Ground.guard }], guard := some (7, true) }) (v := ?_) rfl (by kernel_rfl) (by kernel_rfl) (by kernel_rfl) (fun _ _ _ h => h) (Or.inl ⟨by rfl, ?_⟩) (by assumption) ?_
  rotate_left
  · intro w' hSw; (try dsimp only at hSw); first | (go_simp; done) | (go_simp; with_reducible rfl)
  (try simp only [Act.put, List.setIfInBounds_toArray, List.set_cons_zero, List.set_cons_succ])
  refine wpAnyH_take (i := 11) (oi := { dst := some 163, op := Op.move (Operand.tmp 6), type := 32, pos := "laws.go:681", after := #[{ on := 10, ground := Ground.guard }], guard := some (10, false) }) (v := undef) rfl (by kernel_rfl) (by kernel_rfl) (by kernel_rfl) (fun _ _ _ h => h) (Or.inr ⟨by rfl, rfl⟩) (by assumption) ?_
  (try simp only [Act.put, List.setIfInBounds_toArray, List.set_cons_zero, List.set_cons_succ])
  refine wpAnyH_take (i := 12) (oi := { dst := some 164, op := Op.move (Operand.tmp 17), type := 3, pos := "laws.go:681", after := #[{ on := 10, ground := Ground.guard }], guard := some (10, false) }) (v := undef) rfl (by kernel_rfl) (by kernel_rfl) (by kernel_rfl) (fun _ _ _ h => h) (Or.inr ⟨by rfl, rfl⟩) (by assumption) ?_
  (try simp only [Act.put, List.setIfInBounds_toArray, List.set_cons_zero, List.set_cons_succ])
  refine wpAnyH_take (i := 13) (oi := { dst := some 165, op := Op.indexAddr 32 (Operand.tmp 163) (Operand.tmp 164), type := 0, pos := "laws.go:681", after := #[{ on := 11, ground := Ground.data }, { on := 12, ground := Ground.data }, { on := 10, ground := Ground.guard }], guard := some (10, false) }) (v := undef) rfl (by kernel_rfl) (by kernel_rfl) (by kernel_rfl) (fun _ _ _ h => h) (Or.inr ⟨by rfl, rfl⟩) (by assumption) ?_
  (try simp only [Act.put, List.setIfInBounds_toArray, List.set_cons_zero, List.set_cons_succ])
  refine wpAnyH_take (i := 14) (oi := { dst := some 166, op := Op.load 28 (Operand.tmp 165), type := 28, pos := "laws.go:681", after := #[{ on := 13, ground := Ground.data }, { on := 10, ground := Ground.guard }], guard := some (10, false) }) (v := undef) rfl (by kernel_rfl) (by kernel_rfl) (by kernel_rfl) (fun _ _ _ h => h) (Or.inr ⟨by rfl, rfl⟩) (by assumption) ?_
  (try simp only [Act.put, List.setIfInBounds_toArray, List.set_cons_zero, List.set_cons_succ])
  refine wpAnyH_take (i := 15) (oi := { dst := some 167, op := Op.load 29 (Operand.tmp 7), type := 29, pos := "laws.go:681", after := #[{ on := 10, ground := Ground.guard }], guard := some (10, false) }) (v := undef) rfl (by kernel_rfl) (by kernel_rfl) (by kernel_rfl) (fun _ _ _ h => h) (Or.inr ⟨by rfl, rfl⟩) (by assumption) ?_
  (try simp only [Act.put, List.setIfInBounds_toArray, List.set_cons_zero, List.set_cons_succ])
  refine wpAnyH_take (i := 16) (oi := { dst := some 168, op := Op.load 29 (Operand.tmp 8), type := 29, pos := "laws.go:681", after := #[{ on := 10, ground := Ground.guard }], guard := some (10, false) }) (v := undef) rfl (by kernel_rfl) (by kernel_rfl) (by kernel_rfl) (fun _ _ _ h => h) (Or.inr ⟨by rfl, rfl⟩) (by assumption) ?_
  (try simp only [Act.put, List.setIfInBounds_toArray, List.set_cons_zero, List.set_cons_succ])
  refine wpAnyH_take (i := 17) (oi := { dst := some 169, op := Op.call { callee := Callee.value (Operand.func 13), args := #[Operand.tmp 166, Operand.tmp 167, Operand.tmp 168], argTypes := #[28, 29, 29] }, type := 4, pos := "laws.go:681", after := #[{ on := 14, ground := Ground.data }, { on := 15, ground := Ground.data }, { on := 16, ground := Ground.data }, { on := 10, ground := Ground.chain }, { on := 10, ground := Ground.guard }], guard := some (10, false) }) (v := undef) rfl (by kernel_rfl) (by kernel_rfl) (by kernel_rfl) (fun _ _ _ h => h) (Or.inr ⟨by rfl, rfl⟩) (by assumption) ?_
  (try simp only [Act.put, List.setIfInBounds_toArray, List.set_cons_zero, List.set_cons_succ])
  refine wpAnyH_take (i := 18) (oi := { dst := some 170, op := Op.pick (Operand.tmp 162) (Operand.const (Value.bool true)) (Operand.tmp 169), type := 4, pos := "laws.go:681", after := #[{ on := 10, ground := Ground.data }, { on := 17, ground := Ground.data }, { on := 7, ground := Ground.guard }], guard := some (7, true) }) (v := ?_) rfl (by kernel_rfl) (by kernel_rfl) (by kernel_rfl) (fun _ _ _ h => h) (Or.inl ⟨by rfl, ?_⟩) (by assumption) ?_
  rotate_left
  · intro w' hSw; (try dsimp only at hSw); first | (go_simp; done) | (go_simp; with_reducible rfl)
  (try simp only [Act.put, List.setIfInBounds_toArray, List.set_cons_zero, List.set_cons_succ])
  refine wpAnyH_take (i := 19) (oi := { dst := some 171, op := Op.pick (Operand.tmp 159) (Operand.tmp 170) (Operand.const (Value.bool false)), type := 4, pos := "laws.go:681", after := #[{ on := 7, ground := Ground.data }, { on := 18, ground := Ground.data }], guard := none }) (v := ?_) rfl (by kernel_rfl) (by kernel_rfl) (by kernel_rfl) (fun _ _ _ h => h) (Or.inl ⟨by rfl, ?_⟩) (by assumption) ?_
  rotate_left
  · intro w' hSw; (try dsimp only at hSw); first | (go_simp; done) | (go_simp; with_reducible rfl)
  (try simp only [Act.put, List.setIfInBounds_toArray, List.set_cons_zero, List.set_cons_succ])
  refine wpAnyH_take (i := 20) (oi := { dst := some 172, op := Op.move (Operand.tmp 171), type := 4, pos := "laws.go:681", after := #[{ on := 19, ground := Ground.data }, { on := 17, ground := Ground.chain }], guard := none }) (v := ?_) rfl (by kernel_rfl) (by kernel_rfl) (by kernel_rfl) (fun _ _ _ h => h) (Or.inl ⟨by rfl, ?_⟩) (by assumption) ?_
  rotate_left
  · intro w' hSw; (try dsimp only at hSw); first | (go_simp; done) | (go_simp; with_reducible rfl)
  (try simp only [Act.put, List.setIfInBounds_toArray, List.set_cons_zero, List.set_cons_succ])
  refine wpAnyH_take (i := 21) (oi := { dst := some 173, op := Op.load 28 (Operand.tmp 14), type := 28, pos := "laws.go:681", after := #[{ on := 20, ground := Ground.guard }], guard := some (20, true) }) (v := ?_) rfl (by kernel_rfl) (by kernel_rfl) (by kernel_rfl) (fun _ _ _ h => h) (Or.inl ⟨by rfl, ?_⟩) (by assumption) ?_
  rotate_left
  · intro w' hSw; (try dsimp only at hSw); first | (go_simp; done) | (go_simp; with_reducible rfl)
  (try simp only [Act.put, List.setIfInBounds_toArray, List.set_cons_zero, List.set_cons_succ])
  refine wpAnyH_ready (rs := [22]) (by kernel_rfl) (by simp) ?_
  refine AllReadyH.cons (o := { dst := some 174, op := Op.call { callee := Callee.value (Operand.func 24), args := #[Operand.tmp 173], argTypes := #[28] }, type := 4, pos := "laws.go:681", after := #[{ on := 21, ground := Ground.data }, { on := 20, ground := Ground.chain }, { on := 20, ground := Ground.guard }], guard := some (20, true) }) rfl (fun K hK => ?_) AllReadyH.nil
  go_simp
  refine (iVrV false HV.out (H_t.out.on BB.out) h3).mono ?_
  rintro e wn2 ⟨rfl, hb⟩
  replace BB := Lib.hid (BB.out.trans (hb.mono BB.out.size))
  clear hb
  (try go_wp2_with fail)
  clear hHeld
  refine hK.out _ _ ?_ (fun hHeld => ?_)
  · (try dsimp only); exact ⟨kc K0_m.out BB.out, kc K0_v.out BB.out, kc K0_t.out BB.out, kc K1_t.out BB.out⟩
  clear hK K
  (try simp only [Act.put, List.setIfInBounds_toArray, List.set_cons_zero, List.set_cons_succ])
  refine wpAnyH_take (i := 23) (oi := { dst := some 175, op := Op.unOp UnOp.not 4 (Operand.tmp 174), type := 4, pos := "laws.go:681", after := #[{ on := 22, ground := Ground.data }, { on := 20, ground := Ground.guard }], guard := some (20, true) }) (v := ?_) rfl (by kernel_rfl) (by kernel_rfl) (by kernel_rfl) (fun _ _ _ h => h) (Or.inl ⟨by rfl, ?_⟩) (by assumption) ?_
  rotate_left
  · intro w' hSw; (try dsimp only at hSw); first | (go_simp; done) | (go_simp; with_reducible rfl)
  (try simp only [Act.put, List.setIfInBounds_toArray, List.set_cons_zero, List.set_cons_succ])
  refine wpAnyH_take (i := 24) (oi := { dst := some 176, op := Op.move (Operand.tmp 175), type := 4, pos := "laws.go:681", after := #[{ on := 23, ground := Ground.data }, { on := 22, ground := Ground.chain }, { on := 20, ground := Ground.guard }], guard := some (20, true) }) (v := ?_) rfl (by kernel_rfl) (by kernel_rfl) (by kernel_rfl) (fun _ _ _ h => h) (Or.inl ⟨by rfl, ?_⟩) (by assumption) ?_
  rotate_left
  · intro w' hSw; (try dsimp only at hSw); first | (go_simp; done) | (go_simp; with_reducible rfl)
  (try simp only [Act.put, List.setIfInBounds_toArray, List.set_cons_zero, List.set_cons_succ])
  refine wpAnyH_take (i := 25) (oi := { dst := some 177, op := Op.move (Operand.tmp 19), type := 4, pos := "laws.go:681", after := #[{ on := 24, ground := Ground.guard }], guard := some (24, false) }) (v := undef) rfl (by kernel_rfl) (by kernel_rfl) (by kernel_rfl) (fun _ _ _ h => h) (Or.inr ⟨by rfl, rfl⟩) (by assumption) ?_
  (try simp only [Act.put, List.setIfInBounds_toArray, List.set_cons_zero, List.set_cons_succ])
  refine wpAnyH_take (i := 26) (oi := { dst := some 178, op := Op.move (Operand.tmp 177), type := 4, pos := "laws.go:681", after := #[{ on := 25, ground := Ground.data }, { on := 24, ground := Ground.chain }, { on := 24, ground := Ground.guard }], guard := some (24, false) }) (v := undef) rfl (by kernel_rfl) (by kernel_rfl) (by kernel_rfl) (fun _ _ _ h => h) (Or.inr ⟨by rfl, rfl⟩) (by assumption) ?_
  (try simp only [Act.put, List.setIfInBounds_toArray, List.set_cons_zero, List.set_cons_succ])
  refine wpAnyH_take (i := 27) (oi := { dst := some 179, op := Op.load 28 (Operand.tmp 18), type := 28, pos := "laws.go:681", after := #[{ on := 26, ground := Ground.guard }], guard := some (26, true) }) (v := undef) rfl (by kernel_rfl) (by kernel_rfl) (by kernel_rfl) (fun _ _ _ h => h) (Or.inr ⟨by rfl, rfl⟩) (by assumption) ?_
  (try simp only [Act.put, List.setIfInBounds_toArray, List.set_cons_zero, List.set_cons_succ])
  refine wpAnyH_take (i := 28) (oi := { dst := some 180, op := Op.load 28 (Operand.tmp 14), type := 28, pos := "laws.go:681", after := #[{ on := 26, ground := Ground.guard }], guard := some (26, true) }) (v := undef) rfl (by kernel_rfl) (by kernel_rfl) (by kernel_rfl) (fun _ _ _ h => h) (Or.inr ⟨by rfl, rfl⟩) (by assumption) ?_
  (try simp only [Act.put, List.setIfInBounds_toArray, List.set_cons_zero, List.set_cons_succ])
  refine wpAnyH_take (i := 29) (oi := { dst := some 181, op := Op.call { callee := Callee.value (Operand.func 20), args := #[Operand.tmp 179, Operand.tmp 180], argTypes := #[28, 28] }, type := 4, pos := "laws.go:681", after := #[{ on := 27, ground := Ground.data }, { on := 28, ground := Ground.data }, { on := 26, ground := Ground.chain }, { on := 26, ground := Ground.guard }], guard := some (26, true) }) (v := undef) rfl (by kernel_rfl) (by kernel_rfl) (by kernel_rfl) (fun _ _ _ h => h) (Or.inr ⟨by rfl, rfl⟩) (by assumption) ?_
  (try simp only [Act.put, List.setIfInBounds_toArray, List.set_cons_zero, List.set_cons_succ])
  refine wpAnyH_take (i := 30) (oi := { dst := some 182, op := Op.pick (Operand.tmp 178) (Operand.tmp 181) (Operand.const (Value.bool false)), type := 4, pos := "laws.go:681", after := #[{ on := 26, ground := Ground.data }, { on := 29, ground := Ground.data }, { on := 24, ground := Ground.guard }], guard := some (24, false) }) (v := undef) rfl (by kernel_rfl) (by kernel_rfl) (by kernel_rfl) (fun _ _ _ h => h) (Or.inr ⟨by rfl, rfl⟩) (by assumption) ?_
  (try simp only [Act.put, List.setIfInBounds_toArray, List.set_cons_zero, List.set_cons_succ])
  refine wpAnyH_take (i := 31) (oi := { dst := some 183, op := Op.pick (Operand.tmp 176) (Operand.const (Value.bool true)) (Operand.tmp 182), type := 4, pos := "laws.go:681", after := #[{ on := 24, ground := Ground.data }, { on := 30, ground := Ground.data }, { on := 20, ground := Ground.guard }], guard := some (20, true) }) (v := ?_) rfl (by kernel_rfl) (by kernel_rfl) (by kernel_rfl) (fun _ _ _ h => h) (Or.inl ⟨by rfl, ?_⟩) (by assumption) ?_
  rotate_left
  · intro w' hSw; (try dsimp only at hSw); first | (go_simp; done) | (go_simp; with_reducible rfl)
  (try simp only [Act.put, List.setIfInBounds_toArray, List.set_cons_zero, List.set_cons_succ])
  refine wpAnyH_take (i := 32) (oi := { dst := some 184, op := Op.pick (Operand.tmp 172) (Operand.tmp 183) (Operand.const (Value.bool false)), type := 4, pos := "laws.go:681", after := #[{ on := 20, ground := Ground.data }, { on := 31, ground := Ground.data }], guard := none }) (v := ?_) rfl (by kernel_rfl) (by kernel_rfl) (by kernel_rfl) (fun _ _ _ h => h) (Or.inl ⟨by rfl, ?_⟩) (by assumption) ?_
  rotate_left
  · intro w' hSw; (try dsimp only at hSw); first | (go_simp; done) | (go_simp; with_reducible rfl)
  (try simp only [Act.put, List.setIfInBounds_toArray, List.set_cons_zero, List.set_cons_succ])
  refine wpAnyH_take (i := 33) (oi := { dst := some 2, op := Op.assign (Operand.tmp 184), type := 4, pos := "laws.go:681", after := #[{ on := 32, ground := Ground.data }, { on := 29, ground := Ground.chain }, { on := 0, ground := Ground.phase }, { on := 1, ground := Ground.phase }, { on := 2, ground := Ground.phase }, { on := 3, ground := Ground.phase }, { on := 4, ground := Ground.phase }, { on := 5, ground := Ground.phase }, { on := 6, ground := Ground.phase }, { on := 7, ground := Ground.phase }, { on := 8, ground := Ground.phase }, { on := 9, ground := Ground.phase }, { on := 10, ground := Ground.phase }, { on := 11, ground := Ground.phase }, { on := 12, ground := Ground.phase }, { on := 13, ground := Ground.phase }, { on := 14, ground := Ground.phase }, { on := 15, ground := Ground.phase }, { on := 16, ground := Ground.phase }, { on := 17, ground := Ground.phase }, { on := 18, ground := Ground.phase }, { on := 19, ground := Ground.phase }, { on := 20, ground := Ground.phase }, { on := 21, ground := Ground.phase }, { on := 22, ground := Ground.phase }, { on := 23, ground := Ground.phase }, { on := 24, ground := Ground.phase }, { on := 25, ground := Ground.phase }, { on := 26, ground := Ground.phase }, { on := 27, ground := Ground.phase }, { on := 28, ground := Ground.phase }, { on := 29, ground := Ground.phase }, { on := 30, ground := Ground.phase }, { on := 31, ground := Ground.phase }, { on := 32, ground := Ground.phase }], guard := none }) (v := ?_) rfl (by kernel_rfl) (by kernel_rfl) (by kernel_rfl) (fun _ _ _ h => h) (Or.inl ⟨by rfl, ?_⟩) (by assumption) ?_
  rotate_left
  · intro w' hSw; (try dsimp only at hSw); first | (go_simp; done) | (go_simp; with_reducible rfl)
  (try simp only [Act.put, List.setIfInBounds_toArray, List.set_cons_zero, List.set_cons_succ])
  refine wpAnyH_done (by kernel_rfl) ?_ _
  exact NoPanic.normal (HQ.out _ _ _ _ _ _ _ _ _ _ _ _ _ _ _ _ _ _ _ _ _ _ _ _ _ _ _ _ _ _ _ _ _  _  BB.out)

set_option maxRecDepth 100000 in
set_option maxHeartbeats 4000000 in
theorem regU16nv {Q : Exit → Act → World → Prop} {v0 v1 v2 v3 v4 v5 v9 v10 v11 v12 v13 v15 v16 v20 v21 v22 v23 v24 v25 v26 v27 v28 v29 v30 v31 v32 v33 v34 v35 v36 v37 v38 v39 v40 v41 v42 v43 v44 v45 v46 v47 v48 v49 v50 v51 v52 v53 v54 v55 v56 v57 v58 v59 v60 v61 v62 v63 v64 v65 v66 v67 v68 v69 v70 v71 v72 v73 v74 v75 v76 v77 v78 v79 v80 v81 v82 v83 v84 v85 v86 v87 v88 v89 v90 v91 v92 v93 v94 v95 v96 v97 v98 v99 v100 v101 v102 v103 v104 v105 v106 v107 v108 v109 v110 v111 v112 v113 v114 v115 v116 v117 v118 v119 v120 v121 v122 v123 v124 v125 v126 v127 v128 v129 v130 v131 v132 v133 v134 v135 v136 v137 v138 v139 v140 v141 v142 v143 v144 v145 v146 v147 v148 v149 v150 v151 v152 v153 v154 v155 v156 v157 v158 v159 v160 v161 v162 v163 v164 v165 v166 v167 v168 v169 v170 v171 v172 v173 v174 v175 v176 v177 v178 v179 v180 v181 v182 v183 v184 : Value} {w : World} {bm bv bt bz : Nat} {k : Int}  {lm lw : List ByteArray} {tt : Rlt} {tl : List Rlt} {x_m : Option Addr} {n_m c_m : Nat} {x_v : Option Addr} {n_v c_v : Nat} {x_ta : Option Addr} {n_ta c_ta : Nat} {x_tb : Option Addr} {n_tb c_tb : Nat} {x_l : Option Addr} {n_l c_l : Nat} {x_za : Option Addr} {n_za c_za : Nat} {x_zb : Option Addr} {n_zb c_zb : Nat} (H_m : Hid (kN.At w (.agg #[.slice x_m n_m c_m]) lm)) (H_v : Hid (kN.At w (.agg #[.slice x_v n_v c_v]) lw)) (H_t : Hid (kRl.At w (.agg #[.slice x_ta n_ta c_ta, .slice x_tb n_tb c_tb]) tt)) (H_l : Hid (kLRl.At w (.slice x_l n_l c_l) tl)) (hk : k < 0) (hk0 : ¬ 0 ≤ k) (H_z : Hid (kRl.At w (.agg #[.slice x_za n_za c_za, .slice x_zb n_zb c_zb]) tt)) (HA : Hid (decide (0 ≤ firstR tl lm lw) = false)) (HV : Hid (validR tt = true)) (HRL : Hid (RL10 tl)) (h1 : bulk lm ≤ 1000) (h2 : bulk lw ≤ 1000) (h3 : wtRl tt ≤ 9000000) (K0_m : Hid (w.cell? ⟨bm, 0, none⟩ = some (.slice x_m n_m c_m))) (K0_v : Hid (w.cell? ⟨bv, 0, none⟩ = some (.slice x_v n_v c_v))) (K0_t : Hid (w.cell? ⟨bt, 0, none⟩ = some (.slice x_ta n_ta c_ta))) (K1_t : Hid (w.cell? ⟨bt, 1, none⟩ = some (.slice x_tb n_tb c_tb))) (K0_z : Hid (w.cell? ⟨bz, 0, none⟩ = some (.slice x_za n_za c_za))) (K1_z : Hid (w.cell? ⟨bz, 1, none⟩ = some (.slice x_zb n_zb c_zb)))
    (hQ : ∀ (u152 u153 u154 u155 u156 u157 u158 u159 u160 u161 u162 u163 u164 u165 u166 u167 u168 u169 u170 u171 u172 u173 u174 u175 u176 u177 u178 u179 u180 u181 u182 u183 u184 : Value)  (wx : World), Below w.heap.size w wx → Q .normal ⟨#[v0, v1, .bool true, v3, v4, v5, .slice x_l n_l c_l, .pointer (some ⟨bm, 0, none⟩), .pointer (some ⟨bv, 0, none⟩), v9, v10, v11, v12, v13, .pointer (some ⟨bt, 0, none⟩), v15, v16, .int .i64 k, .pointer (some ⟨bz, 0, none⟩), .bool true, v20, v21, v22, v23, v24, v25, v26, v27, v28, v29, v30, v31, v32, v33, v34, v35, v36, v37, v38, v39, v40, v41, v42, v43, v44, v45, v46, v47, v48, v49, v50, v51, v52, v53, v54, v55, v56, v57, v58, v59, v60, v61, v62, v63, v64, v65, v66, v67, v68, v69, v70, v71, v72, v73, v74, v75, v76, v77, v78, v79, v80, v81, v82, v83, v84, v85, v86, v87, v88, v89, v90, v91, v92, v93, v94, v95, v96, v97, v98, v99, v100, v101, v102, v103, v104, v105, v106, v107, v108, v109, v110, v111, v112, v113, v114, v115, v116, v117, v118, v119, v120, v121, v122, v123, v124, v125, v126, v127, v128, v129, v130, v131, v132, v133, v134, v135, v136, v137, v138, v139, v140, v141, v142, v143, v144, v145, v146, v147, v148, v149, v150, v151, u152, u153, u154, u155, u156, u157, u158, u159, u160, u161, u162, u163, u164, u165, u166, u167, u168, u169, u170, u171, u172, u173, u174, u175, u176, u177, u178, u179, u180, u181, u182, u183, u184], []⟩ wx) :
    (Code.region 16 #[{ dst := some 152, op := Op.move (Operand.tmp 6), type := 32, pos := "laws.go:681", after := #[], guard := none },
      { dst := some 153, op := Op.load 29 (Operand.tmp 7), type := 29, pos := "laws.go:681", after := #[], guard := none },
      { dst := some 154, op := Op.load 29 (Operand.tmp 8), type := 29, pos := "laws.go:681", after := #[], guard := none },
      { dst := some 155, op := Op.call { callee := Callee.value (Operand.func 15), args := #[Operand.tmp 152, Operand.tmp 153, Operand.tmp 154], argTypes := #[32, 29, 29] }, type := 4, pos := "laws.go:681", after := #[{ on := 0, ground := Ground.data }, { on := 1, ground := Ground.data }, { on := 2, ground := Ground.data }], guard := none },
      { dst := some 156, op := Op.move (Operand.tmp 17), type := 3, pos := "laws.go:681", after := #[], guard := none },
      { dst := some 157, op := Op.binOp BinOp.geq 3 (Operand.tmp 156) (Operand.const (Value.int IntKind.i64 0)) 3, type := 4, pos := "laws.go:681", after := #[{ on := 4, ground := Ground.data }], guard := none },
      { dst := some 158, op := Op.binOp BinOp.eql 4 (Operand.tmp 155) (Operand.tmp 157) 4, type := 4, pos := "laws.go:681", after := #[{ on := 3, ground := Ground.data }, { on := 5, ground := Ground.data }], guard := none },
      { dst := some 159, op := Op.move (Operand.tmp 158), type := 4, pos := "laws.go:681", after := #[{ on := 6, ground := Ground.data }, { on := 3, ground := Ground.chain }], guard := none },
      { dst := some 160, op := Op.move (Operand.tmp 17), type := 3, pos := "laws.go:681", after := #[{ on := 7, ground := Ground.guard }], guard := some (7, true) },
      { dst := some 161, op := Op.binOp BinOp.lss 3 (Operand.tmp 160) (Operand.const (Value.int IntKind.i64 0)) 3, type := 4, pos := "laws.go:681", after := #[{ on := 8, ground := Ground.data }, { on := 7, ground := Ground.guard }], guard := some (7, true) },
      { dst := some 162, op := Op.move (Operand.tmp 161), type := 4, pos := "laws.go:681", after := #[{ on := 9, ground := Ground.data }, { on := 7, ground := Ground.chain }, { on := 7, ground := Ground.guard }], guard := some (7, true) },
      { dst := some 163, op := Op.move (Operand.tmp 6), type := 32, pos := "laws.go:681", after := #[{ on := 10, ground := Ground.guard }], guard := some (10, false) },
      { dst := some 164, op := Op.move (Operand.tmp 17), type := 3, pos := "laws.go:681", after := #[{ on := 10, ground := Ground.guard }], guard := some (10, false) },
      { dst := some 165, op := Op.indexAddr 32 (Operand.tmp 163) (Operand.tmp 164), type := 0, pos := "laws.go:681", after := #[{ on := 11, ground := Ground.data }, { on := 12, ground := Ground.data }, { on := 10, ground := Ground.guard }], guard := some (10, false) },
      { dst := some 166, op := Op.load 28 (Operand.tmp 165), type := 28, pos := "laws.go:681", after := #[{ on := 13, ground := Ground.data }, { on := 10, ground := Ground.guard }], guard := some (10, false) },
      { dst := some 167, op := Op.load 29 (Operand.tmp 7), type := 29, pos := "laws.go:681", after := #[{ on := 10, ground := Ground.guard }], guard := some (10, false) },
      { dst := some 168, op := Op.load 29 (Operand.tmp 8), type := 29, pos := "laws.go:681", after := #[{ on := 10, ground := Ground.guard }], guard := some (10, false) },
      { dst := some 169, op := Op.call { callee := Callee.value (Operand.func 13), args := #[Operand.tmp 166, Operand.tmp 167, Operand.tmp 168], argTypes := #[28, 29, 29] }, type := 4, pos := "laws.go:681", after := #[{ on := 14, ground := Ground.data }, { on := 15, ground := Ground.data }, { on := 16, ground := Ground.data }, { on := 10, ground := Ground.chain }, { on := 10, ground := Ground.guard }], guard := some (10, false) },
      { dst := some 170, op := Op.pick (Operand.tmp 162) (Operand.const (Value.bool true)) (Operand.tmp 169), type := 4, pos := "laws.go:681", after := #[{ on := 10, ground := Ground.data }, { on := 17, ground := Ground.data }, { on := 7, ground := Ground.guard }], guard := some (7, true) },
      { dst := some 171, op := Op.pick (Operand.tmp 159) (Operand.tmp 170) (Operand.const (Value.bool false)), type := 4, pos := "laws.go:681", after := #[{ on := 7, ground := Ground.data }, { on := 18, ground := Ground.data }], guard := none },
      { dst := some 172, op := Op.move (Operand.tmp 171), type := 4, pos := "laws.go:681", after := #[{ on := 19, ground := Ground.data }, { on := 17, ground := Ground.chain }], guard := none },
      { dst := some 173, op := Op.load 28 (Operand.tmp 14), type := 28, pos := "laws.go:681", after := #[{ on := 20, ground := Ground.guard }], guard := some (20, true) },
      { dst := some 174, op := Op.call { callee := Callee.value (Operand.func 24), args := #[Operand.tmp 173], argTypes := #[28] }, type := 4, pos := "laws.go:681", after := #[{ on := 21, ground := Ground.data }, { on := 20, ground := Ground.chain }, { on := 20, ground := Ground.guard }], guard := some (20, true) },
      { dst := some 175, op := Op.unOp UnOp.not 4 (Operand.tmp 174), type := 4, pos := "laws.go:681", after := #[{ on := 22, ground := Ground.data }, { on := 20, ground := Ground.guard }], guard := some (20, true) },
      { dst := some 176, op := Op.move (Operand.tmp 175), type := 4, pos := "laws.go:681", after := #[{ on := 23, ground := Ground.data }, { on := 22, ground := Ground.chain }, { on := 20, ground := Ground.guard }], guard := some (20, true) },
      { dst := some 177, op := Op.move (Operand.tmp 19), type := 4, pos := "laws.go:681", after := #[{ on := 24, ground := Ground.guard }], guard := some (24, false) },
      { dst := some 178, op := Op.move (Operand.tmp 177), type := 4, pos := "laws.go:681", after := #[{ on := 25, ground := Ground.data }, { on := 24, ground := Ground.chain }, { on := 24, ground := Ground.guard }], guard := some (24, false) },
      { dst := some 179, op := Op.load 28 (Operand.tmp 18), type := 28, pos := "laws.go:681", after := #[{ on := 26, ground := Ground.guard }], guard := some (26, true) },
      { dst := some 180, op := Op.load 28 (Operand.tmp 14), type := 28, pos := "laws.go:681", after := #[{ on := 26, ground := Ground.guard }], guard := some (26, true) },
      { dst := some 181, op := Op.call { callee := Callee.value (Operand.func 20), args := #[Operand.tmp 179, Operand.tmp 180], argTypes := #[28, 28] }, type := 4, pos := "laws.go:681", after := #[{ on := 27, ground := Ground.data }, { on := 28, ground := Ground.data }, { on := 26, ground := Ground.chain }, { on := 26, ground := Ground.guard }], guard := some (26, true) },
      { dst := some 182, op := Op.pick (Operand.tmp 178) (Operand.tmp 181) (Operand.const (Value.bool false)), type := 4, pos := "laws.go:681", after := #[{ on := 26, ground := Ground.data }, { on := 29, ground := Ground.data }, { on := 24, ground := Ground.guard }], guard := some (24, false) },
      { dst := some 183, op := Op.pick (Operand.tmp 176) (Operand.const (Value.bool true)) (Operand.tmp 182), type := 4, pos := "laws.go:681", after := #[{ on := 24, ground := Ground.data }, { on := 30, ground := Ground.data }, { on := 20, ground := Ground.guard }], guard := some (20, true) },
      { dst := some 184, op := Op.pick (Operand.tmp 172) (Operand.tmp 183) (Operand.const (Value.bool false)), type := 4, pos := "laws.go:681", after := #[{ on := 20, ground := Ground.data }, { on := 31, ground := Ground.data }], guard := none },
      { dst := some 2, op := Op.assign (Operand.tmp 184), type := 4, pos := "laws.go:681", after := #[{ on := 32, ground := Ground.data }, { on := 29, ground := Ground.chain }, { on := 0, ground := Ground.phase }, { on := 1, ground := Ground.phase }, { on := 2, ground := Ground.phase }, { on := 3, ground := Ground.phase }, { on := 4, ground := Ground.phase }, { on := 5, ground := Ground.phase }, { on := 6, ground := Ground.phase }, { on := 7, ground := Ground.phase }, { on := 8, ground := Ground.phase }, { on := 9, ground := Ground.phase }, { on := 10, ground := Ground.phase }, { on := 11, ground := Ground.phase }, { on := 12, ground := Ground.phase }, { on := 13, ground := Ground.phase }, { on := 14, ground := Ground.phase }, { on := 15, ground := Ground.phase }, { on := 16, ground := Ground.phase }, { on := 17, ground := Ground.phase }, { on := 18, ground := Ground.phase }, { on := 19, ground := Ground.phase }, { on := 20, ground := Ground.phase }, { on := 21, ground := Ground.phase }, { on := 22, ground := Ground.phase }, { on := 23, ground := Ground.phase }, { on := 24, ground := Ground.phase }, { on := 25, ground := Ground.phase }, { on := 26, ground := Ground.phase }, { on := 27, ground := Ground.phase }, { on := 28, ground := Ground.phase }, { on := 29, ground := Ground.phase }, { on := 30, ground := Ground.phase }, { on := 31, ground := Ground.phase }, { on := 32, ground := Ground.phase }], guard := none }] true).wp Tryz.prog Q ⟨#[v0, v1, v2, v3, v4, v5, .slice x_l n_l c_l, .pointer (some ⟨bm, 0, none⟩), .pointer (some ⟨bv, 0, none⟩), v9, v10, v11, v12, v13, .pointer (some ⟨bt, 0, none⟩), v15, v16, .int .i64 k, .pointer (some ⟨bz, 0, none⟩), .bool true, v20, v21, v22, v23, v24, v25, v26, v27, v28, v29, v30, v31, v32, v33, v34, v35, v36, v37, v38, v39, v40, v41, v42, v43, v44, v45, v46, v47, v48, v49, v50, v51, v52, v53, v54, v55, v56, v57, v58, v59, v60, v61, v62, v63, v64, v65, v66, v67, v68, v69, v70, v71, v72, v73, v74, v75, v76, v77, v78, v79, v80, v81, v82, v83, v84, v85, v86, v87, v88, v89, v90, v91, v92, v93, v94, v95, v96, v97, v98, v99, v100, v101, v102, v103, v104, v105, v106, v107, v108, v109, v110, v111, v112, v113, v114, v115, v116, v117, v118, v119, v120, v121, v122, v123, v124, v125, v126, v127, v128, v129, v130, v131, v132, v133, v134, v135, v136, v137, v138, v139, v140, v141, v142, v143, v144, v145, v146, v147, v148, v149, v150, v151, v152, v153, v154, v155, v156, v157, v158, v159, v160, v161, v162, v163, v164, v165, v166, v167, v168, v169, v170, v171, v172, v173, v174, v175, v176, v177, v178, v179, v180, v181, v182, v183, v184], []⟩ w := by
  have HQ := Lib.hid hQ; clear hQ
  have hdr : Below w.heap.size w w.drew := (Below.refl _ _).drew
  have BB := Lib.hid hdr
  refine wp_region_noPanic ?_
  refine wp_region_held_drew (S := (fun w' => w'.cell? ⟨bm, 0, none⟩ = some (.slice x_m n_m c_m) ∧ w'.cell? ⟨bv, 0, none⟩ = some (.slice x_v n_v c_v) ∧ w'.cell? ⟨bt, 0, none⟩ = some (.slice x_ta n_ta c_ta) ∧ w'.cell? ⟨bt, 1, none⟩ = some (.slice x_tb n_tb c_tb) ∧ w'.cell? ⟨bz, 0, none⟩ = some (.slice x_za n_za c_za) ∧ w'.cell? ⟨bz, 1, none⟩ = some (.slice x_zb n_zb c_zb))) (by kernel_rfl) ?_ (fun hHeld => ?_)
  · exact ⟨kc K0_m.out BB.out, kc K0_v.out BB.out, kc K0_t.out BB.out, kc K1_t.out BB.out, kc K0_z.out BB.out, kc K1_z.out BB.out⟩
  clear hdr
  generalize w.drew = wd at *
  refine wpAnyH_take (i := 0) (oi := { dst := some 152, op := Op.move (Operand.tmp 6), type := 32, pos := "laws.go:681", after := #[], guard := none }) (v := ?_) rfl (by kernel_rfl) (by kernel_rfl) (by kernel_rfl) (fun _ _ _ h => h) (Or.inl ⟨by rfl, ?_⟩) (by assumption) ?_
  rotate_left
  · intro w' hSw; (try dsimp only at hSw); first | (go_simp; done) | (go_simp; with_reducible rfl)
  (try simp only [Act.put, List.setIfInBounds_toArray, List.set_cons_zero, List.set_cons_succ])
  refine wpAnyH_take (i := 1) (oi := { dst := some 153, op := Op.load 29 (Operand.tmp 7), type := 29, pos := "laws.go:681", after := #[], guard := none }) (v := ?_) rfl (by kernel_rfl) (by kernel_rfl) (by kernel_rfl) (fun _ _ _ h => h) (Or.inl ⟨by rfl, ?_⟩) (by assumption) ?_
  rotate_left
  · intro w' hSw; (try dsimp only at hSw); first | (go_simp; done) | (go_simp; with_reducible rfl)
  (try simp only [Act.put, List.setIfInBounds_toArray, List.set_cons_zero, List.set_cons_succ])
  refine wpAnyH_take (i := 2) (oi := { dst := some 154, op := Op.load 29 (Operand.tmp 8), type := 29, pos := "laws.go:681", after := #[], guard := none }) (v := ?_) rfl (by kernel_rfl) (by kernel_rfl) (by kernel_rfl) (fun _ _ _ h => h) (Or.inl ⟨by rfl, ?_⟩) (by assumption) ?_
  rotate_left
  · intro w' hSw; (try dsimp only at hSw); first | (go_simp; done) | (go_simp; with_reducible rfl)
  (try simp only [Act.put, List.setIfInBounds_toArray, List.set_cons_zero, List.set_cons_succ])
  refine wpAnyH_take (i := 4) (oi := { dst := some 156, op := Op.move (Operand.tmp 17), type := 3, pos := "laws.go:681", after := #[], guard := none }) (v := ?_) rfl (by kernel_rfl) (by kernel_rfl) (by kernel_rfl) (fun _ _ _ h => h) (Or.inl ⟨by rfl, ?_⟩) (by assumption) ?_
  rotate_left
  · intro w' hSw; (try dsimp only at hSw); first | (go_simp; done) | (go_simp; with_reducible rfl)
  (try simp only [Act.put, List.setIfInBounds_toArray, List.set_cons_zero, List.set_cons_succ])
  refine wpAnyH_take (i := 5) (oi := { dst := some 157, op := Op.binOp BinOp.geq 3 (Operand.tmp 156) (Operand.const (Value.int IntKind.i64 0)) 3, type := 4, pos := "laws.go:681", after := #[{ on := 4, ground := Ground.data }], guard := none }) (v := ?_) rfl (by kernel_rfl) (by kernel_rfl) (by kernel_rfl) (fun _ _ _ h => h) (Or.inl ⟨by rfl, ?_⟩) (by assumption) ?_
  rotate_left
  · intro w' hSw; (try dsimp only at hSw); first | (go_simp; done) | (go_simp; with_reducible rfl)
  (try simp only [Act.put, List.setIfInBounds_toArray, List.set_cons_zero, List.set_cons_succ])
  refine wpAnyH_ready (rs := [3]) (by kernel_rfl) (by simp) ?_
  refine AllReadyH.cons (o := { dst := some 155, op := Op.call { callee := Callee.value (Operand.func 15), args := #[Operand.tmp 152, Operand.tmp 153, Operand.tmp 154], argTypes := #[32, 29, 29] }, type := 4, pos := "laws.go:681", after := #[{ on := 0, ground := Ground.data }, { on := 1, ground := Ground.data }, { on := 2, ground := Ground.data }], guard := none }) rfl (fun K hK => ?_) AllReadyH.nil
  go_simp
  refine (iAlV false HA.out (H_l.out.on BB.out) (H_m.out.on BB.out) (H_v.out.on BB.out) HRL.out h1 h2).mono ?_
  rintro e wn1 ⟨rfl, hb⟩
  replace BB := Lib.hid (BB.out.trans (hb.mono BB.out.size))
  clear hb
  (try go_wp2_with fail)
  clear hHeld
  refine hK.out _ _ ?_ (fun hHeld => ?_)
  · (try dsimp only); exact ⟨kc K0_m.out BB.out, kc K0_v.out BB.out, kc K0_t.out BB.out, kc K1_t.out BB.out, kc K0_z.out BB.out, kc K1_z.out BB.out⟩
  clear hK K
  (try simp only [Act.put, List.setIfInBounds_toArray, List.set_cons_zero, List.set_cons_succ])
  refine wpAnyH_take (i := 6) (oi := { dst := some 158, op := Op.binOp BinOp.eql 4 (Operand.tmp 155) (Operand.tmp 157) 4, type := 4, pos := "laws.go:681", after := #[{ on := 3, ground := Ground.data }, { on := 5, ground := Ground.data }], guard := none }) (v := ?_) rfl (by kernel_rfl) (by kernel_rfl) (by kernel_rfl) (fun _ _ _ h => h) (Or.inl ⟨by rfl, ?_⟩) (by assumption) ?_
  rotate_left
  · intro w' hSw; (try dsimp only at hSw); first | (go_simp; done) | (go_simp; with_reducible rfl)
  (try simp only [Act.put, List.setIfInBounds_toArray, List.set_cons_zero, List.set_cons_succ])
  refine wpAnyH_take (i := 7) (oi := { dst := some 159, op := Op.move (Operand.tmp 158), type := 4, pos := "laws.go:681", after := #[{ on := 6, ground := Ground.data }, { on := 3, ground := Ground.chain }], guard := none }) (v := ?_) rfl (by kernel_rfl) (by kernel_rfl) (by kernel_rfl) (fun _ _ _ h => h) (Or.inl ⟨by rfl, ?_⟩) (by assumption) ?_
  rotate_left
  · intro w' hSw; (try dsimp only at hSw); first | (go_simp; done) | (go_simp; with_reducible rfl)
  (try simp only [Act.put, List.setIfInBounds_toArray, List.set_cons_zero, List.set_cons_succ])
  refine wpAnyH_take (i := 8) (oi := { dst := some 160, op := Op.move (Operand.tmp 17), type := 3, pos := "laws.go:681", after := #[{ on := 7, ground := Ground.guard }], guard := some (7, true) }) (v := ?_) rfl (by kernel_rfl) (by kernel_rfl) (by kernel_rfl) (fun _ _ _ h => h) (Or.inl ⟨by rfl, ?_⟩) (by assumption) ?_
  rotate_left
  · intro w' hSw; (try dsimp only at hSw); first | (go_simp; done) | (go_simp; with_reducible rfl)
  (try simp only [Act.put, List.setIfInBounds_toArray, List.set_cons_zero, List.set_cons_succ])
  refine wpAnyH_take (i := 9) (oi := { dst := some 161, op := Op.binOp BinOp.lss 3 (Operand.tmp 160) (Operand.const (Value.int IntKind.i64 0)) 3, type := 4, pos := "laws.go:681", after := #[{ on := 8, ground := Ground.data }, { on := 7, ground := Ground.guard }], guard := some (7, true) }) (v := ?_) rfl (by kernel_rfl) (by kernel_rfl) (by kernel_rfl) (fun _ _ _ h => h) (Or.inl ⟨by rfl, ?_⟩) (by assumption) ?_
  rotate_left
  · intro w' hSw; (try dsimp only at hSw); first | (go_simp; done) | (go_simp; with_reducible rfl)
  (try simp only [Act.put, List.setIfInBounds_toArray, List.set_cons_zero, List.set_cons_succ])
  refine wpAnyH_take (i := 10) (oi := { dst := some 162, op := Op.move (Operand.tmp 161), type := 4, pos := "laws.go:681", after := #[{ on := 9, ground := Ground.data }, { on := 7, ground := Ground.chain }, { on := 7, ground := Ground.guard }], guard := some (7, true) }) (v := ?_) rfl (by kernel_rfl) (by kernel_rfl) (by kernel_rfl) (fun _ _ _ h => h) (Or.inl ⟨by rfl, ?_⟩) (by assumption) ?_
  rotate_left
  · intro w' hSw; (try dsimp only at hSw); first | (go_simp; done) | (go_simp; with_reducible rfl)
  (try simp only [Act.put, List.setIfInBounds_toArray, List.set_cons_zero, List.set_cons_succ])
  refine wpAnyH_take (i := 11) (oi := { dst := some 163, op := Op.move (Operand.tmp 6), type := 32, pos := "laws.go:681", after := #[{ on := 10, ground := Ground.guard }], guard := some (10, false) }) (v := undef) rfl (by kernel_rfl) (by kernel_rfl) (by kernel_rfl) (fun _ _ _ h => h) (Or.inr ⟨by rfl, rfl⟩) (by assumption) ?_
  (try simp only [Act.put, List.setIfInBounds_toArray, List.set_cons_zero, List.set_cons_succ])
  refine wpAnyH_take (i := 12) (oi := { dst := some 164, op := Op.move (Operand.tmp 17), type := 3, pos := "laws.go:681", after := #[{ on := 10, ground := Ground.guard }], guard := some (10, false) }) (v := undef) rfl (by kernel_rfl) (by kernel_rfl) (by kernel_rfl) (fun _ _ _ h => h) (Or.inr ⟨by rfl, rfl⟩) (by assumption) ?_
  (try simp only [Act.put, List.setIfInBounds_toArray, List.set_cons_zero, List.set_cons_succ])
  refine wpAnyH_take (i := 13) (oi := { dst := some 165, op := Op.indexAddr 32 (Operand.tmp 163) (Operand.tmp 164), type := 0, pos := "laws.go:681", after := #[{ on := 11, ground := Ground.data }, { on := 12, ground := Ground.data }, { on := 10, ground := Ground.guard }], guard := some (10, false) }) (v := undef) rfl (by kernel_rfl) (by kernel_rfl) (by kernel_rfl) (fun _ _ _ h => h) (Or.inr ⟨by rfl, rfl⟩) (by assumption) ?_
  (try simp only [Act.put, List.setIfInBounds_toArray, List.set_cons_zero, List.set_cons_succ])
  refine wpAnyH_take (i := 14) (oi := { dst := some 166, op := Op.load 28 (Operand.tmp 165), type := 28, pos := "laws.go:681", after := #[{ on := 13, ground := Ground.data }, { on := 10, ground := Ground.guard }], guard := some (10, false) }) (v := undef) rfl (by kernel_rfl) (by kernel_rfl) (by kernel_rfl) (fun _ _ _ h => h) (Or.inr ⟨by rfl, rfl⟩) (by assumption) ?_
  (try simp only [Act.put, List.setIfInBounds_toArray, List.set_cons_zero, List.set_cons_succ])
  refine wpAnyH_take (i := 15) (oi := { dst := some 167, op := Op.load 29 (Operand.tmp 7), type := 29, pos := "laws.go:681", after := #[{ on := 10, ground := Ground.guard }], guard := some (10, false) }) (v := undef) rfl (by kernel_rfl) (by kernel_rfl) (by kernel_rfl) (fun _ _ _ h => h) (Or.inr ⟨by rfl, rfl⟩) (by assumption) ?_
  (try simp only [Act.put, List.setIfInBounds_toArray, List.set_cons_zero, List.set_cons_succ])
  refine wpAnyH_take (i := 16) (oi := { dst := some 168, op := Op.load 29 (Operand.tmp 8), type := 29, pos := "laws.go:681", after := #[{ on := 10, ground := Ground.guard }], guard := some (10, false) }) (v := undef) rfl (by kernel_rfl) (by kernel_rfl) (by kernel_rfl) (fun _ _ _ h => h) (Or.inr ⟨by rfl, rfl⟩) (by assumption) ?_
  (try simp only [Act.put, List.setIfInBounds_toArray, List.set_cons_zero, List.set_cons_succ])
  refine wpAnyH_take (i := 17) (oi := { dst := some 169, op := Op.call { callee := Callee.value (Operand.func 13), args := #[Operand.tmp 166, Operand.tmp 167, Operand.tmp 168], argTypes := #[28, 29, 29] }, type := 4, pos := "laws.go:681", after := #[{ on := 14, ground := Ground.data }, { on := 15, ground := Ground.data }, { on := 16, ground := Ground.data }, { on := 10, ground := Ground.chain }, { on := 10, ground := Ground.guard }], guard := some (10, false) }) (v := undef) rfl (by kernel_rfl) (by kernel_rfl) (by kernel_rfl) (fun _ _ _ h => h) (Or.inr ⟨by rfl, rfl⟩) (by assumption) ?_
  (try simp only [Act.put, List.setIfInBounds_toArray, List.set_cons_zero, List.set_cons_succ])
  refine wpAnyH_take (i := 18) (oi := { dst := some 170, op := Op.pick (Operand.tmp 162) (Operand.const (Value.bool true)) (Operand.tmp 169), type := 4, pos := "laws.go:681", after := #[{ on := 10, ground := Ground.data }, { on := 17, ground := Ground.data }, { on := 7, ground := Ground.guard }], guard := some (7, true) }) (v := ?_) rfl (by kernel_rfl) (by kernel_rfl) (by kernel_rfl) (fun _ _ _ h => h) (Or.inl ⟨by rfl, ?_⟩) (by assumption) ?_
  rotate_left
  · intro w' hSw; (try dsimp only at hSw); first | (go_simp; done) | (go_simp; with_reducible rfl)
  (try simp only [Act.put, List.setIfInBounds_toArray, List.set_cons_zero, List.set_cons_succ])
  refine wpAnyH_take (i := 19) (oi := { dst := some 171, op := Op.pick (Operand.tmp 159) (Operand.tmp 170) (Operand.const (Value.bool false)), type := 4, pos := "laws.go:681", after := #[{ on := 7, ground := Ground.data }, { on := 18, ground := Ground.data }], guard := none }) (v := ?_) rfl (by kernel_rfl) (by kernel_rfl) (by kernel_rfl) (fun _ _ _ h => h) (Or.inl ⟨by rfl, ?_⟩) (by assumption) ?_
  rotate_left
  · intro w' hSw; (try dsimp only at hSw); first | (go_simp; done) | (go_simp; with_reducible rfl)
  (try simp only [Act.put, List.setIfInBounds_toArray, List.set_cons_zero, List.set_cons_succ])
  refine wpAnyH_take (i := 20) (oi := { dst := some 172, op := Op.move (Operand.tmp 171), type := 4, pos := "laws.go:681", after := #[{ on := 19, ground := Ground.data }, { on := 17, ground := Ground.chain }], guard := none }) (v := ?_) rfl (by kernel_rfl) (by kernel_rfl) (by kernel_rfl) (fun _ _ _ h => h) (Or.inl ⟨by rfl, ?_⟩) (by assumption) ?_
  rotate_left
  · intro w' hSw; (try dsimp only at hSw); first | (go_simp; done) | (go_simp; with_reducible rfl)
  (try simp only [Act.put, List.setIfInBounds_toArray, List.set_cons_zero, List.set_cons_succ])
  refine wpAnyH_take (i := 21) (oi := { dst := some 173, op := Op.load 28 (Operand.tmp 14), type := 28, pos := "laws.go:681", after := #[{ on := 20, ground := Ground.guard }], guard := some (20, true) }) (v := ?_) rfl (by kernel_rfl) (by kernel_rfl) (by kernel_rfl) (fun _ _ _ h => h) (Or.inl ⟨by rfl, ?_⟩) (by assumption) ?_
  rotate_left
  · intro w' hSw; (try dsimp only at hSw); first | (go_simp; done) | (go_simp; with_reducible rfl)
  (try simp only [Act.put, List.setIfInBounds_toArray, List.set_cons_zero, List.set_cons_succ])
  refine wpAnyH_ready (rs := [22]) (by kernel_rfl) (by simp) ?_
  refine AllReadyH.cons (o := { dst := some 174, op := Op.call { callee := Callee.value (Operand.func 24), args := #[Operand.tmp 173], argTypes := #[28] }, type := 4, pos := "laws.go:681", after := #[{ on := 21, ground := Ground.data }, { on := 20, ground := Ground.chain }, { on := 20, ground := Ground.guard }], guard := some (20, true) }) rfl (fun K hK => ?_) AllReadyH.nil
  go_simp
  refine (iVrV true HV.out (H_t.out.on BB.out) h3).mono ?_
  rintro e wn2 ⟨rfl, hb⟩
  replace BB := Lib.hid (BB.out.trans (hb.mono BB.out.size))
  clear hb
  (try go_wp2_with fail)
  clear hHeld
  refine hK.out _ _ ?_ (fun hHeld => ?_)
  · (try dsimp only); exact ⟨kc K0_m.out BB.out, kc K0_v.out BB.out, kc K0_t.out BB.out, kc K1_t.out BB.out, kc K0_z.out BB.out, kc K1_z.out BB.out⟩
  clear hK K
  (try simp only [Act.put, List.setIfInBounds_toArray, List.set_cons_zero, List.set_cons_succ])
  refine wpAnyH_take (i := 23) (oi := { dst := some 175, op := Op.unOp UnOp.not 4 (Operand.tmp 174), type := 4, pos := "laws.go:681", after := #[{ on := 22, ground := Ground.data }, { on := 20, ground := Ground.guard }], guard := some (20, true) }) (v := ?_) rfl (by kernel_rfl) (by kernel_rfl) (by kernel_rfl) (fun _ _ _ h => h) (Or.inl ⟨by rfl, ?_⟩) (by assumption) ?_
  rotate_left
  · intro w' hSw; (try dsimp only at hSw); first | (go_simp; done) | (go_simp; with_reducible rfl)
  (try simp only [Act.put, List.setIfInBounds_toArray, List.set_cons_zero, List.set_cons_succ])
  refine wpAnyH_take (i := 24) (oi := { dst := some 176, op := Op.move (Operand.tmp 175), type := 4, pos := "laws.go:681", after := #[{ on := 23, ground := Ground.data }, { on := 22, ground := Ground.chain }, { on := 20, ground := Ground.guard }], guard := some (20, true) }) (v := ?_) rfl (by kernel_rfl) (by kernel_rfl) (by kernel_rfl) (fun _ _ _ h => h) (Or.inl ⟨by rfl, ?_⟩) (by assumption) ?_
  rotate_left
  · intro w' hSw; (try dsimp only at hSw); first | (go_simp; done) | (go_simp; with_reducible rfl)
  (try simp only [Act.put, List.setIfInBounds_toArray, List.set_cons_zero, List.set_cons_succ])
  refine wpAnyH_take (i := 25) (oi := { dst := some 177, op := Op.move (Operand.tmp 19), type := 4, pos := "laws.go:681", after := #[{ on := 24, ground := Ground.guard }], guard := some (24, false) }) (v := ?_) rfl (by kernel_rfl) (by kernel_rfl) (by kernel_rfl) (fun _ _ _ h => h) (Or.inl ⟨by rfl, ?_⟩) (by assumption) ?_
  rotate_left
  · intro w' hSw; (try dsimp only at hSw); first | (go_simp; done) | (go_simp; with_reducible rfl)
  (try simp only [Act.put, List.setIfInBounds_toArray, List.set_cons_zero, List.set_cons_succ])
  refine wpAnyH_take (i := 26) (oi := { dst := some 178, op := Op.move (Operand.tmp 177), type := 4, pos := "laws.go:681", after := #[{ on := 25, ground := Ground.data }, { on := 24, ground := Ground.chain }, { on := 24, ground := Ground.guard }], guard := some (24, false) }) (v := ?_) rfl (by kernel_rfl) (by kernel_rfl) (by kernel_rfl) (fun _ _ _ h => h) (Or.inl ⟨by rfl, ?_⟩) (by assumption) ?_
  rotate_left
  · intro w' hSw; (try dsimp only at hSw); first | (go_simp; done) | (go_simp; with_reducible rfl)
  (try simp only [Act.put, List.setIfInBounds_toArray, List.set_cons_zero, List.set_cons_succ])
  refine wpAnyH_take (i := 27) (oi := { dst := some 179, op := Op.load 28 (Operand.tmp 18), type := 28, pos := "laws.go:681", after := #[{ on := 26, ground := Ground.guard }], guard := some (26, true) }) (v := ?_) rfl (by kernel_rfl) (by kernel_rfl) (by kernel_rfl) (fun _ _ _ h => h) (Or.inl ⟨by rfl, ?_⟩) (by assumption) ?_
  rotate_left
  · intro w' hSw; (try dsimp only at hSw); first | (go_simp; done) | (go_simp; with_reducible rfl)
  (try simp only [Act.put, List.setIfInBounds_toArray, List.set_cons_zero, List.set_cons_succ])
  refine wpAnyH_take (i := 28) (oi := { dst := some 180, op := Op.load 28 (Operand.tmp 14), type := 28, pos := "laws.go:681", after := #[{ on := 26, ground := Ground.guard }], guard := some (26, true) }) (v := ?_) rfl (by kernel_rfl) (by kernel_rfl) (by kernel_rfl) (fun _ _ _ h => h) (Or.inl ⟨by rfl, ?_⟩) (by assumption) ?_
  rotate_left
  · intro w' hSw; (try dsimp only at hSw); first | (go_simp; done) | (go_simp; with_reducible rfl)
  (try simp only [Act.put, List.setIfInBounds_toArray, List.set_cons_zero, List.set_cons_succ])
  refine wpAnyH_ready (rs := [29]) (by kernel_rfl) (by simp) ?_
  refine AllReadyH.cons (o := { dst := some 181, op := Op.call { callee := Callee.value (Operand.func 20), args := #[Operand.tmp 179, Operand.tmp 180], argTypes := #[28, 28] }, type := 4, pos := "laws.go:681", after := #[{ on := 27, ground := Ground.data }, { on := 28, ground := Ground.data }, { on := 26, ground := Ground.chain }, { on := 26, ground := Ground.guard }], guard := some (26, true) }) rfl (fun K hK => ?_) AllReadyH.nil
  go_simp
  refine (iErV true (decide_eq_true rfl) (H_z.out.on BB.out) (H_t.out.on BB.out) h3 h3).mono ?_
  rintro e wn3 ⟨rfl, hb⟩
  replace BB := Lib.hid (BB.out.trans (hb.mono BB.out.size))
  clear hb
  (try go_wp2_with fail)
  clear hHeld
  refine hK.out _ _ ?_ (fun hHeld => ?_)
  · (try dsimp only); exact ⟨kc K0_m.out BB.out, kc K0_v.out BB.out, kc K0_t.out BB.out, kc K1_t.out BB.out, kc K0_z.out BB.out, kc K1_z.out BB.out⟩
  clear hK K
  (try simp only [Act.put, List.setIfInBounds_toArray, List.set_cons_zero, List.set_cons_succ])
  refine wpAnyH_take (i := 30) (oi := { dst := some 182, op := Op.pick (Operand.tmp 178) (Operand.tmp 181) (Operand.const (Value.bool false)), type := 4, pos := "laws.go:681", after := #[{ on := 26, ground := Ground.data }, { on := 29, ground := Ground.data }, { on := 24, ground := Ground.guard }], guard := some (24, false) }) (v := ?_) rfl (by kernel_rfl) (by kernel_rfl) (by kernel_rfl) (fun _ _ _ h => h) (Or.inl ⟨by rfl, ?_⟩) (by assumption) ?_
  rotate_left
  · intro w' hSw; (try dsimp only at hSw); first | (go_simp; done) | (go_simp; with_reducible rfl)
  (try simp only [Act.put, List.setIfInBounds_toArray, List.set_cons_zero, List.set_cons_succ])
  refine wpAnyH_take (i := 31) (oi := { dst := some 183, op := Op.pick (Operand.tmp 176) (Operand.const (Value.bool true)) (Operand.tmp 182), type := 4, pos := "laws.go:681", after := #[{ on := 24, ground := Ground.data }, { on := 30, ground := Ground.data }, { on := 20, ground := Ground.guard }], guard := some (20, true) }) (v := ?_) rfl (by kernel_rfl) (by kernel_rfl) (by kernel_rfl) (fun _ _ _ h => h) (Or.inl ⟨by rfl, ?_⟩) (by assumption) ?_
  rotate_left
  · intro w' hSw; (try dsimp only at hSw); first | (go_simp; done) | (go_simp; with_reducible rfl)
  (try simp only [Act.put, List.setIfInBounds_toArray, List.set_cons_zero, List.set_cons_succ])
  refine wpAnyH_take (i := 32) (oi := { dst := some 184, op := Op.pick (Operand.tmp 172) (Operand.tmp 183) (Operand.const (Value.bool false)), type := 4, pos := "laws.go:681", after := #[{ on := 20, ground := Ground.data }, { on := 31, ground := Ground.data }], guard := none }) (v := ?_) rfl (by kernel_rfl) (by kernel_rfl) (by kernel_rfl) (fun _ _ _ h => h) (Or.inl ⟨by rfl, ?_⟩) (by assumption) ?_
  rotate_left
  · intro w' hSw; (try dsimp only at hSw); first | (go_simp; done) | (go_simp; with_reducible rfl)
  (try simp only [Act.put, List.setIfInBounds_toArray, List.set_cons_zero, List.set_cons_succ])
  refine wpAnyH_take (i := 33) (oi := { dst := some 2, op := Op.assign (Operand.tmp 184), type := 4, pos := "laws.go:681", after := #[{ on := 32, ground := Ground.data }, { on := 29, ground := Ground.chain }, { on := 0, ground := Ground.phase }, { on := 1, ground := Ground.phase }, { on := 2, ground := Ground.phase }, { on := 3, ground := Ground.phase }, { on := 4, ground := Ground.phase }, { on := 5, ground := Ground.phase }, { on := 6, ground := Ground.phase }, { on := 7, ground := Ground.phase }, { on := 8, ground := Ground.phase }, { on := 9, ground := Ground.phase }, { on := 10, ground := Ground.phase }, { on := 11, ground := Ground.phase }, { on := 12, ground := Ground.phase }, { on := 13, ground := Ground.phase }, { on := 14, ground := Ground.phase }, { on := 15, ground := Ground.phase }, { on := 16, ground := Ground.phase }, { on := 17, ground := Ground.phase }, { on := 18, ground := Ground.phase }, { on := 19, ground := Ground.phase }, { on := 20, ground := Ground.phase }, { on := 21, ground := Ground.phase }, { on := 22, ground := Ground.phase }, { on := 23, ground := Ground.phase }, { on := 24, ground := Ground.phase }, { on := 25, ground := Ground.phase }, { on := 26, ground := Ground.phase }, { on := 27, ground := Ground.phase }, { on := 28, ground := Ground.phase }, { on := 29, ground := Ground.phase }, { on := 30, ground := Ground.phase }, { on := 31, ground := Ground.phase }, { on := 32, ground := Ground.phase }], guard := none }) (v := ?_) rfl (by kernel_rfl) (by kernel_rfl) (by kernel_rfl) (fun _ _ _ h => h) (Or.inl ⟨by rfl, ?_⟩) (by assumption) ?_
  rotate_left
  · intro w' hSw; (try dsimp only at hSw); first | (go_simp; done) | (go_simp; with_reducible rfl)
  (try simp only [Act.put, List.setIfInBounds_toArray, List.set_cons_zero, List.set_cons_succ])
  refine wpAnyH_done (by kernel_rfl) ?_ _
  exact NoPanic.normal (HQ.out _ _ _ _ _ _ _ _ _ _ _ _ _ _ _ _ _ _ _ _ _ _ _ _ _ _ _ _ _ _ _ _ _  _  BB.out)

set_option maxRecDepth 100000 in
set_option maxHeartbeats 4000000 in
theorem regU16pi {Q : Exit → Act → World → Prop} {v0 v1 v2 v3 v4 v5 v9 v10 v11 v12 v13 v15 v16 v18 v19 v20 v21 v22 v23 v24 v25 v26 v27 v28 v29 v30 v31 v32 v33 v34 v35 v36 v37 v38 v39 v40 v41 v42 v43 v44 v45 v46 v47 v48 v49 v50 v51 v52 v53 v54 v55 v56 v57 v58 v59 v60 v61 v62 v63 v64 v65 v66 v67 v68 v69 v70 v71 v72 v73 v74 v75 v76 v77 v78 v79 v80 v81 v82 v83 v84 v85 v86 v87 v88 v89 v90 v91 v92 v93 v94 v95 v96 v97 v98 v99 v100 v101 v102 v103 v104 v105 v106 v107 v108 v109 v110 v111 v112 v113 v114 v115 v116 v117 v118 v119 v120 v121 v122 v123 v124 v125 v126 v127 v128 v129 v130 v131 v132 v133 v134 v135 v136 v137 v138 v139 v140 v141 v142 v143 v144 v145 v146 v147 v148 v149 v150 v151 v152 v153 v154 v155 v156 v157 v158 v159 v160 v161 v162 v163 v164 v165 v166 v167 v168 v169 v170 v171 v172 v173 v174 v175 v176 v177 v178 v179 v180 v181 v182 v183 v184 : Value} {w : World} {bm bv bt bl off j n_l c_l : Nat}   {lm lw : List ByteArray} {tt te : Rlt} {tl : List Rlt} {x_m : Option Addr} {n_m c_m : Nat} {x_v : Option Addr} {n_v c_v : Nat} {x_ta : Option Addr} {n_ta c_ta : Nat} {x_tb : Option Addr} {n_tb c_tb : Nat} {x_ea : Option Addr} {n_ea c_ea : Nat} {x_eb : Option Addr} {n_eb c_eb : Nat} (H_m : Hid (kN.At w (.agg #[.slice x_m n_m c_m]) lm)) (H_v : Hid (kN.At w (.agg #[.slice x_v n_v c_v]) lw)) (H_t : Hid (kRl.At w (.agg #[.slice x_ta n_ta c_ta, .slice x_tb n_tb c_tb]) tt)) (H_e : Hid (kRl.At w (.agg #[.slice x_ea n_ea c_ea, .slice x_eb n_eb c_eb]) te)) (H_l : Hid (kLRl.At w (.slice (some ⟨bl, off, none⟩) n_l c_l) tl)) (HE : Hid (allowsR te lm lw = true)) (he : wtRl te ≤ 9000000) (hj : j < n_l) (hjc : j ≤ c_l) (hn : n_l ≤ 9000000) (HA : Hid (decide (0 ≤ firstR tl lm lw) = true)) (HV : Hid (validR tt = false)) (HRL : Hid (RL10 tl)) (h1 : bulk lm ≤ 1000) (h2 : bulk lw ≤ 1000) (h3 : wtRl tt ≤ 9000000) (K0_m : Hid (w.cell? ⟨bm, 0, none⟩ = some (.slice x_m n_m c_m))) (K0_v : Hid (w.cell? ⟨bv, 0, none⟩ = some (.slice x_v n_v c_v))) (K0_t : Hid (w.cell? ⟨bt, 0, none⟩ = some (.slice x_ta n_ta c_ta))) (K1_t : Hid (w.cell? ⟨bt, 1, none⟩ = some (.slice x_tb n_tb c_tb))) (K0_e : Hid (w.cell? ⟨bl, off + j * 2, none⟩ = some (.slice x_ea n_ea c_ea))) (K1_e : Hid (w.cell? ⟨bl, off + j * 2 + 1, none⟩ = some (.slice x_eb n_eb c_eb)))
    (hQ : ∀ (u152 u153 u154 u155 u156 u157 u158 u159 u160 u161 u162 u163 u164 u165 u166 u167 u168 u169 u170 u171 u172 u173 u174 u175 u176 u177 u178 u179 u180 u181 u182 u183 u184 : Value)  (wx : World), Below w.heap.size w wx → Q .normal ⟨#[v0, v1, .bool true, v3, v4, v5, .slice (some ⟨bl, off, none⟩) n_l c_l, .pointer (some ⟨bm, 0, none⟩), .pointer (some ⟨bv, 0, none⟩), v9, v10, v11, v12, v13, .pointer (some ⟨bt, 0, none⟩), v15, v16, .int .i64 (j : Int), v18, v19, v20, v21, v22, v23, v24, v25, v26, v27, v28, v29, v30, v31, v32, v33, v34, v35, v36, v37, v38, v39, v40, v41, v42, v43, v44, v45, v46, v47, v48, v49, v50, v51, v52, v53, v54, v55, v56, v57, v58, v59, v60, v61, v62, v63, v64, v65, v66, v67, v68, v69, v70, v71, v72, v73, v74, v75, v76, v77, v78, v79, v80, v81, v82, v83, v84, v85, v86, v87, v88, v89, v90, v91, v92, v93, v94, v95, v96, v97, v98, v99, v100, v101, v102, v103, v104, v105, v106, v107, v108, v109, v110, v111, v112, v113, v114, v115, v116, v117, v118, v119, v120, v121, v122, v123, v124, v125, v126, v127, v128, v129, v130, v131, v132, v133, v134, v135, v136, v137, v138, v139, v140, v141, v142, v143, v144, v145, v146, v147, v148, v149, v150, v151, u152, u153, u154, u155, u156, u157, u158, u159, u160, u161, u162, u163, u164, u165, u166, u167, u168, u169, u170, u171, u172, u173, u174, u175, u176, u177, u178, u179, u180, u181, u182, u183, u184], []⟩ wx) :
    (Code.region 16 #[{ dst := some 152, op := Op.move (Operand.tmp 6), type := 32, pos := "laws.go:681", after := #[], guard := none },
      { dst := some 153, op := Op.load 29 (Operand.tmp 7), type := 29, pos := "laws.go:681", after := #[], guard := none },
      { dst := some 154, op := Op.load 29 (Operand.tmp 8), type := 29, pos := "laws.go:681", after := #[], guard := none },
      { dst := some 155, op := Op.call { callee := Callee.value (Operand.func 15), args := #[Operand.tmp 152, Operand.tmp 153, Operand.tmp 154], argTypes := #[32, 29, 29] }, type := 4, pos := "laws.go:681", after := #[{ on := 0, ground := Ground.data }, { on := 1, ground := Ground.data }, { on := 2, ground := Ground.data }], guard := none },
      { dst := some 156, op := Op.move (Operand.tmp 17), type := 3, pos := "laws.go:681", after := #[], guard := none },
      { dst := some 157, op := Op.binOp BinOp.geq 3 (Operand.tmp 156) (Operand.const (Value.int IntKind.i64 0)) 3, type := 4, pos := "laws.go:681", after := #[{ on := 4, ground := Ground.data }], guard := none },
      { dst := some 158, op := Op.binOp BinOp.eql 4 (Operand.tmp 155) (Operand.tmp 157) 4, type := 4, pos := "laws.go:681", after := #[{ on := 3, ground := Ground.data }, { on := 5, ground := Ground.data }], guard := none },
      { dst := some 159, op := Op.move (Operand.tmp 158), type := 4, pos := "laws.go:681", after := #[{ on := 6, ground := Ground.data }, { on := 3, ground := Ground.chain }], guard := none },
      { dst := some 160, op := Op.move (Operand.tmp 17), type := 3, pos := "laws.go:681", after := #[{ on := 7, ground := Ground.guard }], guard := some (7, true) },
      { dst := some 161, op := Op.binOp BinOp.lss 3 (Operand.tmp 160) (Operand.const (Value.int IntKind.i64 0)) 3, type := 4, pos := "laws.go:681", after := #[{ on := 8, ground := Ground.data }, { on := 7, ground := Ground.guard }], guard := some (7, true) },
      { dst := some 162, op := Op.move (Operand.tmp 161), type := 4, pos := "laws.go:681", after := #[{ on := 9, ground := Ground.data }, { on := 7, ground := Ground.chain }, { on := 7, ground := Ground.guard }], guard := some (7, true) },
      { dst := some 163, op := Op.move (Operand.tmp 6), type := 32, pos := "laws.go:681", after := #[{ on := 10, ground := Ground.guard }], guard := some (10, false) },
      { dst := some 164, op := Op.move (Operand.tmp 17), type := 3, pos := "laws.go:681", after := #[{ on := 10, ground := Ground.guard }], guard := some (10, false) },
      { dst := some 165, op := Op.indexAddr 32 (Operand.tmp 163) (Operand.tmp 164), type := 0, pos := "laws.go:681", after := #[{ on := 11, ground := Ground.data }, { on := 12, ground := Ground.data }, { on := 10, ground := Ground.guard }], guard := some (10, false) },
      { dst := some 166, op := Op.load 28 (Operand.tmp 165), type := 28, pos := "laws.go:681", after := #[{ on := 13, ground := Ground.data }, { on := 10, ground := Ground.guard }], guard := some (10, false) },
      { dst := some 167, op := Op.load 29 (Operand.tmp 7), type := 29, pos := "laws.go:681", after := #[{ on := 10, ground := Ground.guard }], guard := some (10, false) },
      { dst := some 168, op := Op.load 29 (Operand.tmp 8), type := 29, pos := "laws.go:681", after := #[{ on := 10, ground := Ground.guard }], guard := some (10, false) },
      { dst := some 169, op := Op.call { callee := Callee.value (Operand.func 13), args := #[Operand.tmp 166, Operand.tmp 167, Operand.tmp 168], argTypes := #[28, 29, 29] }, type := 4, pos := "laws.go:681", after := #[{ on := 14, ground := Ground.data }, { on := 15, ground := Ground.data }, { on := 16, ground := Ground.data }, { on := 10, ground := Ground.chain }, { on := 10, ground := Ground.guard }], guard := some (10, false) },
      { dst := some 170, op := Op.pick (Operand.tmp 162) (Operand.const (Value.bool true)) (Operand.tmp 169), type := 4, pos := "laws.go:681", after := #[{ on := 10, ground := Ground.data }, { on := 17, ground := Ground.data }, { on := 7, ground := Ground.guard }], guard := some (7, true) },
      { dst := some 171, op := Op.pick (Operand.tmp 159) (Operand.tmp 170) (Operand.const (Value.bool false)), type := 4, pos := "laws.go:681", after := #[{ on := 7, ground := Ground.data }, { on := 18, ground := Ground.data }], guard := none },
      { dst := some 172, op := Op.move (Operand.tmp 171), type := 4, pos := "laws.go:681", after := #[{ on := 19, ground := Ground.data }, { on := 17, ground := Ground.chain }], guard := none },
      { dst := some 173, op := Op.load 28 (Operand.tmp 14), type := 28, pos := "laws.go:681", after := #[{ on := 20, ground := Ground.guard }], guard := some (20, true) },
      { dst := some 174, op := Op.call { callee := Callee.value (Operand.func 24), args := #[Operand.tmp 173], argTypes := #[28] }, type := 4, pos := "laws.go:681", after := #[{ on := 21, ground := Ground.data }, { on := 20, ground := Ground.chain }, { on := 20, ground := Ground.guard }], guard := some (20, true) },
      { dst := some 175, op := Op.unOp UnOp.not 4 (Operand.tmp 174), type := 4, pos := "laws.go:681", after := #[{ on := 22, ground := Ground.data }, { on := 20, ground := Ground.guard }], guard := some (20, true) },
      { dst := some 176, op := Op.move (Operand.tmp 175), type := 4, pos := "laws.go:681", after := #[{ on := 23, ground := Ground.data }, { on := 22, ground := Ground.chain }, { on := 20, ground := Ground.guard }], guard := some (20, true) },
      { dst := some 177, op := Op.move (Operand.tmp 19), type := 4, pos := "laws.go:681", after := #[{ on := 24, ground := Ground.guard }], guard := some (24, false) },
      { dst := some 178, op := Op.move (Operand.tmp 177), type := 4, pos := "laws.go:681", after := #[{ on := 25, ground := Ground.data }, { on := 24, ground := Ground.chain }, { on := 24, ground := Ground.guard }], guard := some (24, false) },
      { dst := some 179, op := Op.load 28 (Operand.tmp 18), type := 28, pos := "laws.go:681", after := #[{ on := 26, ground := Ground.guard }], guard := some (26, true) },
      { dst := some 180, op := Op.load 28 (Operand.tmp 14), type := 28, pos := "laws.go:681", after := #[{ on := 26, ground := Ground.guard }], guard := some (26, true) },
      { dst := some 181, op := Op.call { callee := Callee.value (Operand.func 20), args := #[Operand.tmp 179, Operand.tmp 180], argTypes := #[28, 28] }, type := 4, pos := "laws.go:681", after := #[{ on := 27, ground := Ground.data }, { on := 28, ground := Ground.data }, { on := 26, ground := Ground.chain }, { on := 26, ground := Ground.guard }], guard := some (26, true) },
      { dst := some 182, op := Op.pick (Operand.tmp 178) (Operand.tmp 181) (Operand.const (Value.bool false)), type := 4, pos := "laws.go:681", after := #[{ on := 26, ground := Ground.data }, { on := 29, ground := Ground.data }, { on := 24, ground := Ground.guard }], guard := some (24, false) },
      { dst := some 183, op := Op.pick (Operand.tmp 176) (Operand.const (Value.bool true)) (Operand.tmp 182), type := 4, pos := "laws.go:681", after := #[{ on := 24, ground := Ground.data }, { on := 30, ground := Ground.data }, { on := 20, ground := Ground.guard }], guard := some (20, true) },
      { dst := some 184, op := Op.pick (Operand.tmp 172) (Operand.tmp 183) (Operand.const (Value.bool false)), type := 4, pos := "laws.go:681", after := #[{ on := 20, ground := Ground.data }, { on := 31, ground := Ground.data }], guard := none },
      { dst := some 2, op := Op.assign (Operand.tmp 184), type := 4, pos := "laws.go:681", after := #[{ on := 32, ground := Ground.data }, { on := 29, ground := Ground.chain }, { on := 0, ground := Ground.phase }, { on := 1, ground := Ground.phase }, { on := 2, ground := Ground.phase }, { on := 3, ground := Ground.phase }, { on := 4, ground := Ground.phase }, { on := 5, ground := Ground.phase }, { on := 6, ground := Ground.phase }, { on := 7, ground := Ground.phase }, { on := 8, ground := Ground.phase }, { on := 9, ground := Ground.phase }, { on := 10, ground := Ground.phase }, { on := 11, ground := Ground.phase }, { on := 12, ground := Ground.phase }, { on := 13, ground := Ground.phase }, { on := 14, ground := Ground.phase }, { on := 15, ground := Ground.phase }, { on := 16, ground := Ground.phase }, { on := 17, ground := Ground.phase }, { on := 18, ground := Ground.phase }, { on := 19, ground := Ground.phase }, { on := 20, ground := Ground.phase }, { on := 21, ground := Ground.phase }, { on := 22, ground := Ground.phase }, { on := 23, ground := Ground.phase }, { on := 24, ground := Ground.phase }, { on := 25, ground := Ground.phase }, { on := 26, ground := Ground.phase }, { on := 27, ground := Ground.phase }, { on := 28, ground := Ground.phase }, { on := 29, ground := Ground.phase }, { on := 30, ground := Ground.phase }, { on := 31, ground := Ground.phase }, { on := 32, ground := Ground.phase }], guard := none }] true).wp Tryz.prog Q ⟨#[v0, v1, v2, v3, v4, v5, .slice (some ⟨bl, off, none⟩) n_l c_l, .pointer (some ⟨bm, 0, none⟩), .pointer (some ⟨bv, 0, none⟩), v9, v10, v11, v12, v13, .pointer (some ⟨bt, 0, none⟩), v15, v16, .int .i64 (j : Int), v18, v19, v20, v21, v22, v23, v24, v25, v26, v27, v28, v29, v30, v31, v32, v33, v34, v35, v36, v37, v38, v39, v40, v41, v42, v43, v44, v45, v46, v47, v48, v49, v50, v51, v52, v53, v54, v55, v56, v57, v58, v59, v60, v61, v62, v63, v64, v65, v66, v67, v68, v69, v70, v71, v72, v73, v74, v75, v76, v77, v78, v79, v80, v81, v82, v83, v84, v85, v86, v87, v88, v89, v90, v91, v92, v93, v94, v95, v96, v97, v98, v99, v100, v101, v102, v103, v104, v105, v106, v107, v108, v109, v110, v111, v112, v113, v114, v115, v116, v117, v118, v119, v120, v121, v122, v123, v124, v125, v126, v127, v128, v129, v130, v131, v132, v133, v134, v135, v136, v137, v138, v139, v140, v141, v142, v143, v144, v145, v146, v147, v148, v149, v150, v151, v152, v153, v154, v155, v156, v157, v158, v159, v160, v161, v162, v163, v164, v165, v166, v167, v168, v169, v170, v171, v172, v173, v174, v175, v176, v177, v178, v179, v180, v181, v182, v183, v184], []⟩ w := by
  have HQ := Lib.hid hQ; clear hQ
  have hdr : Below w.heap.size w w.drew := (Below.refl _ _).drew
  have BB := Lib.hid hdr
  refine wp_region_noPanic ?_
  refine wp_region_held_drew (S := (fun w' => w'.cell? ⟨bm, 0, none⟩ = some (.slice x_m n_m c_m) ∧ w'.cell? ⟨bv, 0, none⟩ = some (.slice x_v n_v c_v) ∧ w'.cell? ⟨bt, 0, none⟩ = some (.slice x_ta n_ta c_ta) ∧ w'.cell? ⟨bt, 1, none⟩ = some (.slice x_tb n_tb c_tb) ∧ w'.cell? ⟨bl, off + j * 2, none⟩ = some (.slice x_ea n_ea c_ea) ∧ w'.cell? ⟨bl, off + j * 2 + 1, none⟩ = some (.slice x_eb n_eb c_eb))) (by kernel_rfl) ?_ (fun hHeld => ?_)
  · exact ⟨kc K0_m.out BB.out, kc K0_v.out BB.out, kc K0_t.out BB.out, kc K1_t.out BB.out, kc K0_e.out BB.out, kc K1_e.out BB.out⟩
  clear hdr
  generalize w.drew = wd at *
  refine wpAnyH_take (i := 0) (oi := { dst := some 152, op := Op.move (Operand.tmp 6), type := 32, pos := "laws.go:681", after := #[], guard := none }) (v := ?_) rfl (by kernel_rfl) (by kernel_rfl) (by kernel_rfl) (fun _ _ _ h => h) (Or.inl ⟨by rfl, ?_⟩) (by assumption) ?_
  rotate_left
  · intro w' hSw; (try dsimp only at hSw); first | (go_simp; done) | (go_simp; with_reducible rfl)
  (try simp only [Act.put, List.setIfInBounds_toArray, List.set_cons_zero, List.set_cons_succ])
  refine wpAnyH_take (i := 1) (oi := { dst := some 153, op := Op.load 29 (Operand.tmp 7), type := 29, pos := "laws.go:681", after := #[], guard := none }) (v := ?_) rfl (by kernel_rfl) (by kernel_rfl) (by kernel_rfl) (fun _ _ _ h => h) (Or.inl ⟨by rfl, ?_⟩) (by assumption) ?_
  rotate_left
  · intro w' hSw; (try dsimp only at hSw); first | (go_simp; done) | (go_simp; with_reducible rfl)
  (try simp only [Act.put, List.setIfInBounds_toArray, List.set_cons_zero, List.set_cons_succ])
  refine wpAnyH_take (i := 2) (oi := { dst := some 154, op := Op.load 29 (Operand.tmp 8), type := 29, pos := "laws.go:681", after := #[], guard := none }) (v := ?_) rfl (by kernel_rfl) (by kernel_rfl) (by kernel_rfl) (fun _ _ _ h => h) (Or.inl ⟨by rfl, ?_⟩) (by assumption) ?_
  rotate_left
  · intro w' hSw; (try dsimp only at hSw); first | (go_simp; done) | (go_simp; with_reducible rfl)
  (try simp only [Act.put, List.setIfInBounds_toArray, List.set_cons_zero, List.set_cons_succ])
  refine wpAnyH_take (i := 4) (oi := { dst := some 156, op := Op.move (Operand.tmp 17), type := 3, pos := "laws.go:681", after := #[], guard := none }) (v := ?_) rfl (by kernel_rfl) (by kernel_rfl) (by kernel_rfl) (fun _ _ _ h => h) (Or.inl ⟨by rfl, ?_⟩) (by assumption) ?_
  rotate_left
  · intro w' hSw; (try dsimp only at hSw); first | (go_simp; done) | (go_simp; with_reducible rfl)
  (try simp only [Act.put, List.setIfInBounds_toArray, List.set_cons_zero, List.set_cons_succ])
  refine wpAnyH_take (i := 5) (oi := { dst := some 157, op := Op.binOp BinOp.geq 3 (Operand.tmp 156) (Operand.const (Value.int IntKind.i64 0)) 3, type := 4, pos := "laws.go:681", after := #[{ on := 4, ground := Ground.data }], guard := none }) (v := ?_) rfl (by kernel_rfl) (by kernel_rfl) (by kernel_rfl) (fun _ _ _ h => h) (Or.inl ⟨by rfl, ?_⟩) (by assumption) ?_
  rotate_left
  · intro w' hSw; (try dsimp only at hSw); first | (go_simp; done) | (go_simp; with_reducible rfl)
  (try simp only [Act.put, List.setIfInBounds_toArray, List.set_cons_zero, List.set_cons_succ])
  refine wpAnyH_ready (rs := [3]) (by kernel_rfl) (by simp) ?_
  refine AllReadyH.cons (o := { dst := some 155, op := Op.call { callee := Callee.value (Operand.func 15), args := #[Operand.tmp 152, Operand.tmp 153, Operand.tmp 154], argTypes := #[32, 29, 29] }, type := 4, pos := "laws.go:681", after := #[{ on := 0, ground := Ground.data }, { on := 1, ground := Ground.data }, { on := 2, ground := Ground.data }], guard := none }) rfl (fun K hK => ?_) AllReadyH.nil
  go_simp
  refine (iAlV true HA.out (H_l.out.on BB.out) (H_m.out.on BB.out) (H_v.out.on BB.out) HRL.out h1 h2).mono ?_
  rintro e wn1 ⟨rfl, hb⟩
  replace BB := Lib.hid (BB.out.trans (hb.mono BB.out.size))
  clear hb
  (try go_wp2_with fail)
  clear hHeld
  refine hK.out _ _ ?_ (fun hHeld => ?_)
  · (try dsimp only); exact ⟨kc K0_m.out BB.out, kc K0_v.out BB.out, kc K0_t.out BB.out, kc K1_t.out BB.out, kc K0_e.out BB.out, kc K1_e.out BB.out⟩
  clear hK K
  (try simp only [Act.put, List.setIfInBounds_toArray, List.set_cons_zero, List.set_cons_succ])
  refine wpAnyH_take (i := 6) (oi := { dst := some 158, op := Op.binOp BinOp.eql 4 (Operand.tmp 155) (Operand.tmp 157) 4, type := 4, pos := "laws.go:681", after := #[{ on := 3, ground := Ground.data }, { on := 5, ground := Ground.data }], guard := none }) (v := ?_) rfl (by kernel_rfl) (by kernel_rfl) (by kernel_rfl) (fun _ _ _ h => h) (Or.inl ⟨by rfl, ?_⟩) (by assumption) ?_
  rotate_left
  · intro w' hSw; (try dsimp only at hSw); first | (go_simp; done) | (go_simp; with_reducible rfl)
  (try simp only [Act.put, List.setIfInBounds_toArray, List.set_cons_zero, List.set_cons_succ])
  refine wpAnyH_take (i := 7) (oi := { dst := some 159, op := Op.move (Operand.tmp 158), type := 4, pos := "laws.go:681", after := #[{ on := 6, ground := Ground.data }, { on := 3, ground := Ground.chain }], guard := none }) (v := ?_) rfl (by kernel_rfl) (by kernel_rfl) (by kernel_rfl) (fun _ _ _ h => h) (Or.inl ⟨by rfl, ?_⟩) (by assumption) ?_
  rotate_left
  · intro w' hSw; (try dsimp only at hSw); first | (go_simp; done) | (go_simp; with_reducible rfl)
  (try simp only [Act.put, List.setIfInBounds_toArray, List.set_cons_zero, List.set_cons_succ])
  refine wpAnyH_take (i := 8) (oi := { dst := some 160, op := Op.move (Operand.tmp 17), type := 3, pos := "laws.go:681", after := #[{ on := 7, ground := Ground.guard }], guard := some (7, true) }) (v := ?_) rfl (by kernel_rfl) (by kernel_rfl) (by kernel_rfl) (fun _ _ _ h => h) (Or.inl ⟨by rfl, ?_⟩) (by assumption) ?_
  rotate_left
  · intro w' hSw; (try dsimp only at hSw); first | (go_simp; done) | (go_simp; with_reducible rfl)
  (try simp only [Act.put, List.setIfInBounds_toArray, List.set_cons_zero, List.set_cons_succ])
  refine wpAnyH_take (i := 9) (oi := { dst := some 161, op := Op.binOp BinOp.lss 3 (Operand.tmp 160) (Operand.const (Value.int IntKind.i64 0)) 3, type := 4, pos := "laws.go:681", after := #[{ on := 8, ground := Ground.data }, { on := 7, ground := Ground.guard }], guard := some (7, true) }) (v := ?_) rfl (by kernel_rfl) (by kernel_rfl) (by kernel_rfl) (fun _ _ _ h => h) (Or.inl ⟨by rfl, ?_⟩) (by assumption) ?_
  rotate_left
  · intro w' hSw; (try dsimp only at hSw); first | (go_simp; done) | (go_simp; with_reducible rfl)
  (try simp only [Act.put, List.setIfInBounds_toArray, List.set_cons_zero, List.set_cons_succ])
  refine wpAnyH_take (i := 10) (oi := { dst := some 162, op := Op.move (Operand.tmp 161), type := 4, pos := "laws.go:681", after := #[{ on := 9, ground := Ground.data }, { on := 7, ground := Ground.chain }, { on := 7, ground := Ground.guard }], guard := some (7, true) }) (v := ?_) rfl (by kernel_rfl) (by kernel_rfl) (by kernel_rfl) (fun _ _ _ h => h) (Or.inl ⟨by rfl, ?_⟩) (by assumption) ?_
  rotate_left
  · intro w' hSw; (try dsimp only at hSw); first | (go_simp; done) | (go_simp; with_reducible rfl)
  (try simp only [Act.put, List.setIfInBounds_toArray, List.set_cons_zero, List.set_cons_succ])
  refine wpAnyH_take (i := 11) (oi := { dst := some 163, op := Op.move (Operand.tmp 6), type := 32, pos := "laws.go:681", after := #[{ on := 10, ground := Ground.guard }], guard := some (10, false) }) (v := ?_) rfl (by kernel_rfl) (by kernel_rfl) (by kernel_rfl) (fun _ _ _ h => h) (Or.inl ⟨by rfl, ?_⟩) (by assumption) ?_
  rotate_left
  · intro w' hSw; (try dsimp only at hSw); first | (go_simp; done) | (go_simp; with_reducible rfl)
  (try simp only [Act.put, List.setIfInBounds_toArray, List.set_cons_zero, List.set_cons_succ])
  refine wpAnyH_take (i := 12) (oi := { dst := some 164, op := Op.move (Operand.tmp 17), type := 3, pos := "laws.go:681", after := #[{ on := 10, ground := Ground.guard }], guard := some (10, false) }) (v := ?_) rfl (by kernel_rfl) (by kernel_rfl) (by kernel_rfl) (fun _ _ _ h => h) (Or.inl ⟨by rfl, ?_⟩) (by assumption) ?_
  rotate_left
  · intro w' hSw; (try dsimp only at hSw); first | (go_simp; done) | (go_simp; with_reducible rfl)
  (try simp only [Act.put, List.setIfInBounds_toArray, List.set_cons_zero, List.set_cons_succ])
  refine wpAnyH_take (i := 13) (oi := { dst := some 165, op := Op.indexAddr 32 (Operand.tmp 163) (Operand.tmp 164), type := 0, pos := "laws.go:681", after := #[{ on := 11, ground := Ground.data }, { on := 12, ground := Ground.data }, { on := 10, ground := Ground.guard }], guard := some (10, false) }) (v := ?_) rfl (by kernel_rfl) (by kernel_rfl) (by kernel_rfl) (fun _ _ _ h => h) (Or.inl ⟨by rfl, ?_⟩) (by assumption) ?_
  rotate_left
  · intro w' hSw; (try dsimp only at hSw); first | (go_simp; done) | (go_simp; with_reducible rfl)
  (try simp only [Act.put, List.setIfInBounds_toArray, List.set_cons_zero, List.set_cons_succ])
  refine wpAnyH_take (i := 14) (oi := { dst := some 166, op := Op.load 28 (Operand.tmp 165), type := 28, pos := "laws.go:681", after := #[{ on := 13, ground := Ground.data }, { on := 10, ground := Ground.guard }], guard := some (10, false) }) (v := ?_) rfl (by kernel_rfl) (by kernel_rfl) (by kernel_rfl) (fun _ _ _ h => h) (Or.inl ⟨by rfl, ?_⟩) (by assumption) ?_
  rotate_left
  · intro w' hSw; (try dsimp only at hSw); first | (go_simp; done) | (go_simp; with_reducible rfl)
  (try simp only [Act.put, List.setIfInBounds_toArray, List.set_cons_zero, List.set_cons_succ])
  refine wpAnyH_take (i := 15) (oi := { dst := some 167, op := Op.load 29 (Operand.tmp 7), type := 29, pos := "laws.go:681", after := #[{ on := 10, ground := Ground.guard }], guard := some (10, false) }) (v := ?_) rfl (by kernel_rfl) (by kernel_rfl) (by kernel_rfl) (fun _ _ _ h => h) (Or.inl ⟨by rfl, ?_⟩) (by assumption) ?_
  rotate_left
  · intro w' hSw; (try dsimp only at hSw); first | (go_simp; done) | (go_simp; with_reducible rfl)
  (try simp only [Act.put, List.setIfInBounds_toArray, List.set_cons_zero, List.set_cons_succ])
  refine wpAnyH_take (i := 16) (oi := { dst := some 168, op := Op.load 29 (Operand.tmp 8), type := 29, pos := "laws.go:681", after := #[{ on := 10, ground := Ground.guard }], guard := some (10, false) }) (v := ?_) rfl (by kernel_rfl) (by kernel_rfl) (by kernel_rfl) (fun _ _ _ h => h) (Or.inl ⟨by rfl, ?_⟩) (by assumption) ?_
  rotate_left
  · intro w' hSw; (try dsimp only at hSw); first | (go_simp; done) | (go_simp; with_reducible rfl)
  (try simp only [Act.put, List.setIfInBounds_toArray, List.set_cons_zero, List.set_cons_succ])
  refine wpAnyH_ready (rs := [17]) (by kernel_rfl) (by simp) ?_
  refine AllReadyH.cons (o := { dst := some 169, op := Op.call { callee := Callee.value (Operand.func 13), args := #[Operand.tmp 166, Operand.tmp 167, Operand.tmp 168], argTypes := #[28, 29, 29] }, type := 4, pos := "laws.go:681", after := #[{ on := 14, ground := Ground.data }, { on := 15, ground := Ground.data }, { on := 16, ground := Ground.data }, { on := 10, ground := Ground.chain }, { on := 10, ground := Ground.guard }], guard := some (10, false) }) rfl (fun K hK => ?_) AllReadyH.nil
  go_simp
  refine (iRaV true HE.out (H_e.out.on BB.out) (H_m.out.on BB.out) (H_v.out.on BB.out) he h1 h2).mono ?_
  rintro e wn2 ⟨rfl, hb⟩
  replace BB := Lib.hid (BB.out.trans (hb.mono BB.out.size))
  clear hb
  (try go_wp2_with fail)
  clear hHeld
  refine hK.out _ _ ?_ (fun hHeld => ?_)
  · (try dsimp only); exact ⟨kc K0_m.out BB.out, kc K0_v.out BB.out, kc K0_t.out BB.out, kc K1_t.out BB.out, kc K0_e.out BB.out, kc K1_e.out BB.out⟩
  clear hK K
  (try simp only [Act.put, List.setIfInBounds_toArray, List.set_cons_zero, List.set_cons_succ])
  refine wpAnyH_take (i := 18) (oi := { dst := some 170, op := Op.pick (Operand.tmp 162) (Operand.const (Value.bool true)) (Operand.tmp 169), type := 4, pos := "laws.go:681", after := #[{ on := 10, ground := Ground.data }, { on := 17, ground := Ground.data }, { on := 7, ground := Ground.guard }], guard := some (7, true) }) (v := ?_) rfl (by kernel_rfl) (by kernel_rfl) (by kernel_rfl) (fun _ _ _ h => h) (Or.inl ⟨by rfl, ?_⟩) (by assumption) ?_
  rotate_left
  · intro w' hSw; (try dsimp only at hSw); first | (go_simp; done) | (go_simp; with_reducible rfl)
  (try simp only [Act.put, List.setIfInBounds_toArray, List.set_cons_zero, List.set_cons_succ])
  refine wpAnyH_take (i := 19) (oi := { dst := some 171, op := Op.pick (Operand.tmp 159) (Operand.tmp 170) (Operand.const (Value.bool false)), type := 4, pos := "laws.go:681", after := #[{ on := 7, ground := Ground.data }, { on := 18, ground := Ground.data }], guard := none }) (v := ?_) rfl (by kernel_rfl) (by kernel_rfl) (by kernel_rfl) (fun _ _ _ h => h) (Or.inl ⟨by rfl, ?_⟩) (by assumption) ?_
  rotate_left
  · intro w' hSw; (try dsimp only at hSw); first | (go_simp; done) | (go_simp; with_reducible rfl)
  (try simp only [Act.put, List.setIfInBounds_toArray, List.set_cons_zero, List.set_cons_succ])
  refine wpAnyH_take (i := 20) (oi := { dst := some 172, op := Op.move (Operand.tmp 171), type := 4, pos := "laws.go:681", after := #[{ on := 19, ground := Ground.data }, { on := 17, ground := Ground.chain }], guard := none }) (v := ?_) rfl (by kernel_rfl) (by kernel_rfl) (by kernel_rfl) (fun _ _ _ h => h) (Or.inl ⟨by rfl, ?_⟩) (by assumption) ?_
  rotate_left
  · intro w' hSw; (try dsimp only at hSw); first | (go_simp; done) | (go_simp; with_reducible rfl)
  (try simp only [Act.put, List.setIfInBounds_toArray, List.set_cons_zero, List.set_cons_succ])
  refine wpAnyH_take (i := 21) (oi := { dst := some 173, op := Op.load 28 (Operand.tmp 14), type := 28, pos := "laws.go:681", after := #[{ on := 20, ground := Ground.guard }], guard := some (20, true) }) (v := ?_) rfl (by kernel_rfl) (by kernel_rfl) (by kernel_rfl) (fun _ _ _ h => h) (Or.inl ⟨by rfl, ?_⟩) (by assumption) ?_
  rotate_left
  · intro w' hSw; (try dsimp only at hSw); first | (go_simp; done) | (go_simp; with_reducible rfl)
  (try simp only [Act.put, List.setIfInBounds_toArray, List.set_cons_zero, List.set_cons_succ])
  refine wpAnyH_ready (rs := [22]) (by kernel_rfl) (by simp) ?_
  refine AllReadyH.cons (o := { dst := some 174, op := Op.call { callee := Callee.value (Operand.func 24), args := #[Operand.tmp 173], argTypes := #[28] }, type := 4, pos := "laws.go:681", after := #[{ on := 21, ground := Ground.data }, { on := 20, ground := Ground.chain }, { on := 20, ground := Ground.guard }], guard := some (20, true) }) rfl (fun K hK => ?_) AllReadyH.nil
  go_simp
  refine (iVrV false HV.out (H_t.out.on BB.out) h3).mono ?_
  rintro e wn3 ⟨rfl, hb⟩
  replace BB := Lib.hid (BB.out.trans (hb.mono BB.out.size))
  clear hb
  (try go_wp2_with fail)
  clear hHeld
  refine hK.out _ _ ?_ (fun hHeld => ?_)
  · (try dsimp only); exact ⟨kc K0_m.out BB.out, kc K0_v.out BB.out, kc K0_t.out BB.out, kc K1_t.out BB.out, kc K0_e.out BB.out, kc K1_e.out BB.out⟩
  clear hK K
  (try simp only [Act.put, List.setIfInBounds_toArray, List.set_cons_zero, List.set_cons_succ])
  refine wpAnyH_take (i := 23) (oi := { dst := some 175, op := Op.unOp UnOp.not 4 (Operand.tmp 174), type := 4, pos := "laws.go:681", after := #[{ on := 22, ground := Ground.data }, { on := 20, ground := Ground.guard }], guard := some (20, true) }) (v := ?_) rfl (by kernel_rfl) (by kernel_rfl) (by kernel_rfl) (fun _ _ _ h => h) (Or.inl ⟨by rfl, ?_⟩) (by assumption) ?_
  rotate_left
  · intro w' hSw; (try dsimp only at hSw); first | (go_simp; done) | (go_simp; with_reducible rfl)
  (try simp only [Act.put, List.setIfInBounds_toArray, List.set_cons_zero, List.set_cons_succ])
  refine wpAnyH_take (i := 24) (oi := { dst := some 176, op := Op.move (Operand.tmp 175), type := 4, pos := "laws.go:681", after := #[{ on := 23, ground := Ground.data }, { on := 22, ground := Ground.chain }, { on := 20, ground := Ground.guard }], guard := some (20, true) }) (v := ?_) rfl (by kernel_rfl) (by kernel_rfl) (by kernel_rfl) (fun _ _ _ h => h) (Or.inl ⟨by rfl, ?_⟩) (by assumption) ?_
  rotate_left
  · intro w' hSw; (try dsimp only at hSw); first | (go_simp; done) | (go_simp; with_reducible rfl)
  (try simp only [Act.put, List.setIfInBounds_toArray, List.set_cons_zero, List.set_cons_succ])
  refine wpAnyH_take (i := 25) (oi := { dst := some 177, op := Op.move (Operand.tmp 19), type := 4, pos := "laws.go:681", after := #[{ on := 24, ground := Ground.guard }], guard := some (24, false) }) (v := undef) rfl (by kernel_rfl) (by kernel_rfl) (by kernel_rfl) (fun _ _ _ h => h) (Or.inr ⟨by rfl, rfl⟩) (by assumption) ?_
  (try simp only [Act.put, List.setIfInBounds_toArray, List.set_cons_zero, List.set_cons_succ])
  refine wpAnyH_take (i := 26) (oi := { dst := some 178, op := Op.move (Operand.tmp 177), type := 4, pos := "laws.go:681", after := #[{ on := 25, ground := Ground.data }, { on := 24, ground := Ground.chain }, { on := 24, ground := Ground.guard }], guard := some (24, false) }) (v := undef) rfl (by kernel_rfl) (by kernel_rfl) (by kernel_rfl) (fun _ _ _ h => h) (Or.inr ⟨by rfl, rfl⟩) (by assumption) ?_
  (try simp only [Act.put, List.setIfInBounds_toArray, List.set_cons_zero, List.set_cons_succ])
  refine wpAnyH_take (i := 27) (oi := { dst := some 179, op := Op.load 28 (Operand.tmp 18), type := 28, pos := "laws.go:681", after := #[{ on := 26, ground := Ground.guard }], guard := some (26, true) }) (v := undef) rfl (by kernel_rfl) (by kernel_rfl) (by kernel_rfl) (fun _ _ _ h => h) (Or.inr ⟨by rfl, rfl⟩) (by assumption) ?_
  (try simp only [Act.put, List.setIfInBounds_toArray, List.set_cons_zero, List.set_cons_succ])
  refine wpAnyH_take (i := 28) (oi := { dst := some 180, op := Op.load 28 (Operand.tmp 14), type := 28, pos := "laws.go:681", after := #[{ on := 26, ground := Ground.guard }], guard := some (26, true) }) (v := undef) rfl (by kernel_rfl) (by kernel_rfl) (by kernel_rfl) (fun _ _ _ h => h) (Or.inr ⟨by rfl, rfl⟩) (by assumption) ?_
  (try simp only [Act.put, List.setIfInBounds_toArray, List.set_cons_zero, List.set_cons_succ])
  refine wpAnyH_take (i := 29) (oi := { dst := some 181, op := Op.call { callee := Callee.value (Operand.func 20), args := #[Operand.tmp 179, Operand.tmp 180], argTypes := #[28, 28] }, type := 4, pos := "laws.go:681", after := #[{ on := 27, ground := Ground.data }, { on := 28, ground := Ground.data }, { on := 26, ground := Ground.chain }, { on := 26, ground := Ground.guard }], guard := some (26, true) }) (v := undef) rfl (by kernel_rfl) (by kernel_rfl) (by kernel_rfl) (fun _ _ _ h => h) (Or.inr ⟨by rfl, rfl⟩) (by assumption) ?_
  (try simp only [Act.put, List.setIfInBounds_toArray, List.set_cons_zero, List.set_cons_succ])
  refine wpAnyH_take (i := 30) (oi := { dst := some 182, op := Op.pick (Operand.tmp 178) (Operand.tmp 181) (Operand.const (Value.bool false)), type := 4, pos := "laws.go:681", after := #[{ on := 26, ground := Ground.data }, { on := 29, ground := Ground.data }, { on := 24, ground := Ground.guard }], guard := some (24, false) }) (v := undef) rfl (by kernel_rfl) (by kernel_rfl) (by kernel_rfl) (fun _ _ _ h => h) (Or.inr ⟨by rfl, rfl⟩) (by assumption) ?_
  (try simp only [Act.put, List.setIfInBounds_toArray, List.set_cons_zero, List.set_cons_succ])
  refine wpAnyH_take (i := 31) (oi := { dst := some 183, op := Op.pick (Operand.tmp 176) (Operand.const (Value.bool true)) (Operand.tmp 182), type := 4, pos := "laws.go:681", after := #[{ on := 24, ground := Ground.data }, { on := 30, ground := Ground.data }, { on := 20, ground := Ground.guard }], guard := some (20, true) }) (v := ?_) rfl (by kernel_rfl) (by kernel_rfl) (by kernel_rfl) (fun _ _ _ h => h) (Or.inl ⟨by rfl, ?_⟩) (by assumption) ?_
  rotate_left
  · intro w' hSw; (try dsimp only at hSw); first | (go_simp; done) | (go_simp; with_reducible rfl)
  (try simp only [Act.put, List.setIfInBounds_toArray, List.set_cons_zero, List.set_cons_succ])
  refine wpAnyH_take (i := 32) (oi := { dst := some 184, op := Op.pick (Operand.tmp 172) (Operand.tmp 183) (Operand.const (Value.bool false)), type := 4, pos := "laws.go:681", after := #[{ on := 20, ground := Ground.data }, { on := 31, ground := Ground.data }], guard := none }) (v := ?_) rfl (by kernel_rfl) (by kernel_rfl) (by kernel_rfl) (fun _ _ _ h => h) (Or.inl ⟨by rfl, ?_⟩) (by assumption) ?_
  rotate_left
  · intro w' hSw; (try dsimp only at hSw); first | (go_simp; done) | (go_simp; with_reducible rfl)
  (try simp only [Act.put, List.setIfInBounds_toArray, List.set_cons_zero, List.set_cons_succ])
  refine wpAnyH_take (i := 33) (oi := { dst := some 2, op := Op.assign (Operand.tmp 184), type := 4, pos := "laws.go:681", after := #[{ on := 32, ground := Ground.data }, { on := 29, ground := Ground.chain }, { on := 0, ground := Ground.phase }, { on := 1, ground := Ground.phase }, { on := 2, ground := Ground.phase }, { on := 3, ground := Ground.phase }, { on := 4, ground := Ground.phase }, { on := 5, ground := Ground.phase }, { on := 6, ground := Ground.phase }, { on := 7, ground := Ground.phase }, { on := 8, ground := Ground.phase }, { on := 9, ground := Ground.phase }, { on := 10, ground := Ground.phase }, { on := 11, ground := Ground.phase }, { on := 12, ground := Ground.phase }, { on := 13, ground := Ground.phase }, { on := 14, ground := Ground.phase }, { on := 15, ground := Ground.phase }, { on := 16, ground := Ground.phase }, { on := 17, ground := Ground.phase }, { on := 18, ground := Ground.phase }, { on := 19, ground := Ground.phase }, { on := 20, ground := Ground.phase }, { on := 21, ground := Ground.phase }, { on := 22, ground := Ground.phase }, { on := 23, ground := Ground.phase }, { on := 24, ground := Ground.phase }, { on := 25, ground := Ground.phase }, { on := 26, ground := Ground.phase }, { on := 27, ground := Ground.phase }, { on := 28, ground := Ground.phase }, { on := 29, ground := Ground.phase }, { on := 30, ground := Ground.phase }, { on := 31, ground := Ground.phase }, { on := 32, ground := Ground.phase }], guard := none }) (v := ?_) rfl (by kernel_rfl) (by kernel_rfl) (by kernel_rfl) (fun _ _ _ h => h) (Or.inl ⟨by rfl, ?_⟩) (by assumption) ?_
  rotate_left
  · intro w' hSw; (try dsimp only at hSw); first | (go_simp; done) | (go_simp; with_reducible rfl)
  (try simp only [Act.put, List.setIfInBounds_toArray, List.set_cons_zero, List.set_cons_succ])
  refine wpAnyH_done (by kernel_rfl) ?_ _
  exact NoPanic.normal (HQ.out _ _ _ _ _ _ _ _ _ _ _ _ _ _ _ _ _ _ _ _ _ _ _ _ _ _ _ _ _ _ _ _ _  _  BB.out)

set_option maxRecDepth 100000 in
set_option maxHeartbeats 4000000 in
theorem regU16pv {Q : Exit → Act → World → Prop} {v0 v1 v2 v3 v4 v5 v9 v10 v11 v12 v13 v15 v16 v20 v21 v22 v23 v24 v25 v26 v27 v28 v29 v30 v31 v32 v33 v34 v35 v36 v37 v38 v39 v40 v41 v42 v43 v44 v45 v46 v47 v48 v49 v50 v51 v52 v53 v54 v55 v56 v57 v58 v59 v60 v61 v62 v63 v64 v65 v66 v67 v68 v69 v70 v71 v72 v73 v74 v75 v76 v77 v78 v79 v80 v81 v82 v83 v84 v85 v86 v87 v88 v89 v90 v91 v92 v93 v94 v95 v96 v97 v98 v99 v100 v101 v102 v103 v104 v105 v106 v107 v108 v109 v110 v111 v112 v113 v114 v115 v116 v117 v118 v119 v120 v121 v122 v123 v124 v125 v126 v127 v128 v129 v130 v131 v132 v133 v134 v135 v136 v137 v138 v139 v140 v141 v142 v143 v144 v145 v146 v147 v148 v149 v150 v151 v152 v153 v154 v155 v156 v157 v158 v159 v160 v161 v162 v163 v164 v165 v166 v167 v168 v169 v170 v171 v172 v173 v174 v175 v176 v177 v178 v179 v180 v181 v182 v183 v184 : Value} {w : World} {bm bv bt bl bz off j n_l c_l : Nat}   {lm lw : List ByteArray} {tt te : Rlt} {tl : List Rlt} {x_m : Option Addr} {n_m c_m : Nat} {x_v : Option Addr} {n_v c_v : Nat} {x_ta : Option Addr} {n_ta c_ta : Nat} {x_tb : Option Addr} {n_tb c_tb : Nat} {x_ea : Option Addr} {n_ea c_ea : Nat} {x_eb : Option Addr} {n_eb c_eb : Nat} {x_za : Option Addr} {n_za c_za : Nat} {x_zb : Option Addr} {n_zb c_zb : Nat} (H_m : Hid (kN.At w (.agg #[.slice x_m n_m c_m]) lm)) (H_v : Hid (kN.At w (.agg #[.slice x_v n_v c_v]) lw)) (H_t : Hid (kRl.At w (.agg #[.slice x_ta n_ta c_ta, .slice x_tb n_tb c_tb]) tt)) (H_e : Hid (kRl.At w (.agg #[.slice x_ea n_ea c_ea, .slice x_eb n_eb c_eb]) te)) (H_l : Hid (kLRl.At w (.slice (some ⟨bl, off, none⟩) n_l c_l) tl)) (HE : Hid (allowsR te lm lw = true)) (he : wtRl te ≤ 9000000) (hj : j < n_l) (hjc : j ≤ c_l) (hn : n_l ≤ 9000000) (H_z : Hid (kRl.At w (.agg #[.slice x_za n_za c_za, .slice x_zb n_zb c_zb]) tt)) (HA : Hid (decide (0 ≤ firstR tl lm lw) = true)) (HV : Hid (validR tt = true)) (HRL : Hid (RL10 tl)) (h1 : bulk lm ≤ 1000) (h2 : bulk lw ≤ 1000) (h3 : wtRl tt ≤ 9000000) (K0_m : Hid (w.cell? ⟨bm, 0, none⟩ = some (.slice x_m n_m c_m))) (K0_v : Hid (w.cell? ⟨bv, 0, none⟩ = some (.slice x_v n_v c_v))) (K0_t : Hid (w.cell? ⟨bt, 0, none⟩ = some (.slice x_ta n_ta c_ta))) (K1_t : Hid (w.cell? ⟨bt, 1, none⟩ = some (.slice x_tb n_tb c_tb))) (K0_e : Hid (w.cell? ⟨bl, off + j * 2, none⟩ = some (.slice x_ea n_ea c_ea))) (K1_e : Hid (w.cell? ⟨bl, off + j * 2 + 1, none⟩ = some (.slice x_eb n_eb c_eb))) (K0_z : Hid (w.cell? ⟨bz, 0, none⟩ = some (.slice x_za n_za c_za))) (K1_z : Hid (w.cell? ⟨bz, 1, none⟩ = some (.slice x_zb n_zb c_zb)))
    (hQ : ∀ (u152 u153 u154 u155 u156 u157 u158 u159 u160 u161 u162 u163 u164 u165 u166 u167 u168 u169 u170 u171 u172 u173 u174 u175 u176 u177 u178 u179 u180 u181 u182 u183 u184 : Value)  (wx : World), Below w.heap.size w wx → Q .normal ⟨#[v0, v1, .bool true, v3, v4, v5, .slice (some ⟨bl, off, none⟩) n_l c_l, .pointer (some ⟨bm, 0, none⟩), .pointer (some ⟨bv, 0, none⟩), v9, v10, v11, v12, v13, .pointer (some ⟨bt, 0, none⟩), v15, v16, .int .i64 (j : Int), .pointer (some ⟨bz, 0, none⟩), .bool true, v20, v21, v22, v23, v24, v25, v26, v27, v28, v29, v30, v31, v32, v33, v34, v35, v36, v37, v38, v39, v40, v41, v42, v43, v44, v45, v46, v47, v48, v49, v50, v51, v52, v53, v54, v55, v56, v57, v58, v59, v60, v61, v62, v63, v64, v65, v66, v67, v68, v69, v70, v71, v72, v73, v74, v75, v76, v77, v78, v79, v80, v81, v82, v83, v84, v85, v86, v87, v88, v89, v90, v91, v92, v93, v94, v95, v96, v97, v98, v99, v100, v101, v102, v103, v104, v105, v106, v107, v108, v109, v110, v111, v112, v113, v114, v115, v116, v117, v118, v119, v120, v121, v122, v123, v124, v125, v126, v127, v128, v129, v130, v131, v132, v133, v134, v135, v136, v137, v138, v139, v140, v141, v142, v143, v144, v145, v146, v147, v148, v149, v150, v151, u152, u153, u154, u155, u156, u157, u158, u159, u160, u161, u162, u163, u164, u165, u166, u167, u168, u169, u170, u171, u172, u173, u174, u175, u176, u177, u178, u179, u180, u181, u182, u183, u184], []⟩ wx) :
    (Code.region 16 #[{ dst := some 152, op := Op.move (Operand.tmp 6), type := 32, pos := "laws.go:681", after := #[], guard := none },
      { dst := some 153, op := Op.load 29 (Operand.tmp 7), type := 29, pos := "laws.go:681", after := #[], guard := none },
      { dst := some 154, op := Op.load 29 (Operand.tmp 8), type := 29, pos := "laws.go:681", after := #[], guard := none },
      { dst := some 155, op := Op.call { callee := Callee.value (Operand.func 15), args := #[Operand.tmp 152, Operand.tmp 153, Operand.tmp 154], argTypes := #[32, 29, 29] }, type := 4, pos := "laws.go:681", after := #[{ on := 0, ground := Ground.data }, { on := 1, ground := Ground.data }, { on := 2, ground := Ground.data }], guard := none },
      { dst := some 156, op := Op.move (Operand.tmp 17), type := 3, pos := "laws.go:681", after := #[], guard := none },
      { dst := some 157, op := Op.binOp BinOp.geq 3 (Operand.tmp 156) (Operand.const (Value.int IntKind.i64 0)) 3, type := 4, pos := "laws.go:681", after := #[{ on := 4, ground := Ground.data }], guard := none },
      { dst := some 158, op := Op.binOp BinOp.eql 4 (Operand.tmp 155) (Operand.tmp 157) 4, type := 4, pos := "laws.go:681", after := #[{ on := 3, ground := Ground.data }, { on := 5, ground := Ground.data }], guard := none },
      { dst := some 159, op := Op.move (Operand.tmp 158), type := 4, pos := "laws.go:681", after := #[{ on := 6, ground := Ground.data }, { on := 3, ground := Ground.chain }], guard := none },
      { dst := some 160, op := Op.move (Operand.tmp 17), type := 3, pos := "laws.go:681", after := #[{ on := 7, ground := Ground.guard }], guard := some (7, true) },
      { dst := some 161, op := Op.binOp BinOp.lss 3 (Operand.tmp 160) (Operand.const (Value.int IntKind.i64 0)) 3, type := 4, pos := "laws.go:681", after := #[{ on := 8, ground := Ground.data }, { on := 7, ground := Ground.guard }], guard := some (7, true) },
      { dst := some 162, op := Op.move (Operand.tmp 161), type := 4, pos := "laws.go:681", after := #[{ on := 9, ground := Ground.data }, { on := 7, ground := Ground.chain }, { on := 7, ground := Ground.guard }], guard := some (7, true) },
      { dst := some 163, op := Op.move (Operand.tmp 6), type := 32, pos := "laws.go:681", after := #[{ on := 10, ground := Ground.guard }], guard := some (10, false) },
      { dst := some 164, op := Op.move (Operand.tmp 17), type := 3, pos := "laws.go:681", after := #[{ on := 10, ground := Ground.guard }], guard := some (10, false) },
      { dst := some 165, op := Op.indexAddr 32 (Operand.tmp 163) (Operand.tmp 164), type := 0, pos := "laws.go:681", after := #[{ on := 11, ground := Ground.data }, { on := 12, ground := Ground.data }, { on := 10, ground := Ground.guard }], guard := some (10, false) },
      { dst := some 166, op := Op.load 28 (Operand.tmp 165), type := 28, pos := "laws.go:681", after := #[{ on := 13, ground := Ground.data }, { on := 10, ground := Ground.guard }], guard := some (10, false) },
      { dst := some 167, op := Op.load 29 (Operand.tmp 7), type := 29, pos := "laws.go:681", after := #[{ on := 10, ground := Ground.guard }], guard := some (10, false) },
      { dst := some 168, op := Op.load 29 (Operand.tmp 8), type := 29, pos := "laws.go:681", after := #[{ on := 10, ground := Ground.guard }], guard := some (10, false) },
      { dst := some 169, op := Op.call { callee := Callee.value (Operand.func 13), args := #[Operand.tmp 166, Operand.tmp 167, Operand.tmp 168], argTypes := #[28, 29, 29] }, type := 4, pos := "laws.go:681", after := #[{ on := 14, ground := Ground.data }, { on := 15, ground := Ground.data }, { on := 16, ground := Ground.data }, { on := 10, ground := Ground.chain }, { on := 10, ground := Ground.guard }], guard := some (10, false) },
      { dst := some 170, op := Op.pick (Operand.tmp 162) (Operand.const (Value.bool true)) (Operand.tmp 169), type := 4, pos := "laws.go:681", after := #[{ on := 10, ground := Ground.data }, { on := 17, ground := Ground.data }, { on := 7, ground := Ground.guard }], guard := some (7, true) },
      { dst := some 171, op := Op.pick (Operand.tmp 159) (Operand.tmp 170) (Operand.const (Value.bool false)), type := 4, pos := "laws.go:681", after := #[{ on := 7, ground := Ground.data }, { on := 18, ground := Ground.data }], guard := none },
      { dst := some 172, op := Op.move (Operand.tmp 171), type := 4, pos := "laws.go:681", after := #[{ on := 19, ground := Ground.data }, { on := 17, ground := Ground.chain }], guard := none },
      { dst := some 173, op := Op.load 28 (Operand.tmp 14), type := 28, pos := "laws.go:681", after := #[{ on := 20, ground := Ground.guard }], guard := some (20, true) },
      { dst := some 174, op := Op.call { callee := Callee.value (Operand.func 24), args := #[Operand.tmp 173], argTypes := #[28] }, type := 4, pos := "laws.go:681", after := #[{ on := 21, ground := Ground.data }, { on := 20, ground := Ground.chain }, { on := 20, ground := Ground.guard }], guard := some (20, true) },
      { dst := some 175, op := Op.unOp UnOp.not 4 (Operand.tmp 174), type := 4, pos := "laws.go:681", after := #[{ on := 22, ground := Ground.data }, { on := 20, ground := Ground.guard }], guard := some (20, true) },
      { dst := some 176, op := Op.move (Operand.tmp 175), type := 4, pos := "laws.go:681", after := #[{ on := 23, ground := Ground.data }, { on := 22, ground := Ground.chain }, { on := 20, ground := Ground.guard }], guard := some (20, true) },
      { dst := some 177, op := Op.move (Operand.tmp 19), type := 4, pos := "laws.go:681", after := #[{ on := 24, ground := Ground.guard }], guard := some (24, false) },
      { dst := some 178, op := Op.move (Operand.tmp 177), type := 4, pos := "laws.go:681", after := #[{ on := 25, ground := Ground.data }, { on := 24, ground := Ground.chain }, { on := 24, ground := Ground.guard }], guard := some (24, false) },
      { dst := some 179, op := Op.load 28 (Operand.tmp 18), type := 28, pos := "laws.go:681", after := #[{ on := 26, ground := Ground.guard }], guard := some (26, true) },
      { dst := some 180, op := Op.load 28 (Operand.tmp 14), type := 28, pos := "laws.go:681", after := #[{ on := 26, ground := Ground.guard }], guard := some (26, true) },
      { dst := some 181, op := Op.call { callee := Callee.value (Operand.func 20), args := #[Operand.tmp 179, Operand.tmp 180], argTypes := #[28, 28] }, type := 4, pos := "laws.go:681", after := #[{ on := 27, ground := Ground.data }, { on := 28, ground := Ground.data }, { on := 26, ground := Ground.chain }, { on := 26, ground := Ground.guard }], guard := some (26, true) },
      { dst := some 182, op := Op.pick (Operand.tmp 178) (Operand.tmp 181) (Operand.const (Value.bool false)), type := 4, pos := "laws.go:681", after := #[{ on := 26, ground := Ground.data }, { on := 29, ground := Ground.data }, { on := 24, ground := Ground.guard }], guard := some (24, false) },
      { dst := some 183, op := Op.pick (Operand.tmp 176) (Operand.const (Value.bool true)) (Operand.tmp 182), type := 4, pos := "laws.go:681", after := #[{ on := 24, ground := Ground.data }, { on := 30, ground := Ground.data }, { on := 20, ground := Ground.guard }], guard := some (20, true) },
      { dst := some 184, op := Op.pick (Operand.tmp 172) (Operand.tmp 183) (Operand.const (Value.bool false)), type := 4, pos := "laws.go:681", after := #[{ on := 20, ground := Ground.data }, { on := 31, ground := Ground.data }], guard := none },
      { dst := some 2, op := Op.assign (Operand.tmp 184), type := 4, pos := "laws.go:681", after := #[{ on := 32, ground := Ground.data }, { on := 29, ground := Ground.chain }, { on := 0, ground := Ground.phase }, { on := 1, ground := Ground.phase }, { on := 2, ground := Ground.phase }, { on := 3, ground := Ground.phase }, { on := 4, ground := Ground.phase }, { on := 5, ground := Ground.phase }, { on := 6, ground := Ground.phase }, { on := 7, ground := Ground.phase }, { on := 8, ground := Ground.phase }, { on := 9, ground := Ground.phase }, { on := 10, ground := Ground.phase }, { on := 11, ground := Ground.phase }, { on := 12, ground := Ground.phase }, { on := 13, ground := Ground.phase }, { on := 14, ground := Ground.phase }, { on := 15, ground := Ground.phase }, { on := 16, ground := Ground.phase }, { on := 17, ground := Ground.phase }, { on := 18, ground := Ground.phase }, { on := 19, ground := Ground.phase }, { on := 20, ground := Ground.phase }, { on := 21, ground := Ground.phase }, { on := 22, ground := Ground.phase }, { on := 23, ground := Ground.phase }, { on := 24, ground := Ground.phase }, { on := 25, ground := Ground.phase }, { on := 26, ground := Ground.phase }, { on := 27, ground := Ground.phase }, { on := 28, ground := Ground.phase }, { on := 29, ground := Ground.phase }, { on := 30, ground := Ground.phase }, { on := 31, ground := Ground.phase }, { on := 32, ground := Ground.phase }], guard := none }] true).wp Tryz.prog Q ⟨#[v0, v1, v2, v3, v4, v5, .slice (some ⟨bl, off, none⟩) n_l c_l, .pointer (some ⟨bm, 0, none⟩), .pointer (some ⟨bv, 0, none⟩), v9, v10, v11, v12, v13, .pointer (some ⟨bt, 0, none⟩), v15, v16, .int .i64 (j : Int), .pointer (some ⟨bz, 0, none⟩), .bool true, v20, v21, v22, v23, v24, v25, v26, v27, v28, v29, v30, v31, v32, v33, v34, v35, v36, v37, v38, v39, v40, v41, v42, v43, v44, v45, v46, v47, v48, v49, v50, v51, v52, v53, v54, v55, v56, v57, v58, v59, v60, v61, v62, v63, v64, v65, v66, v67, v68, v69, v70, v71, v72, v73, v74, v75, v76, v77, v78, v79, v80, v81, v82, v83, v84, v85, v86, v87, v88, v89, v90, v91, v92, v93, v94, v95, v96, v97, v98, v99, v100, v101, v102, v103, v104, v105, v106, v107, v108, v109, v110, v111, v112, v113, v114, v115, v116, v117, v118, v119, v120, v121, v122, v123, v124, v125, v126, v127, v128, v129, v130, v131, v132, v133, v134, v135, v136, v137, v138, v139, v140, v141, v142, v143, v144, v145, v146, v147, v148, v149, v150, v151, v152, v153, v154, v155, v156, v157, v158, v159, v160, v161, v162, v163, v164, v165, v166, v167, v168, v169, v170, v171, v172, v173, v174, v175, v176, v177, v178, v179, v180, v181, v182, v183, v184], []⟩ w := by
  have HQ := Lib.hid hQ; clear hQ
  have hdr : Below w.heap.size w w.drew := (Below.refl _ _).drew
  have BB := Lib.hid hdr
  refine wp_region_noPanic ?_
  refine wp_region_held_drew (S := (fun w' => w'.cell? ⟨bm, 0, none⟩ = some (.slice x_m n_m c_m) ∧ w'.cell? ⟨bv, 0, none⟩ = some (.slice x_v n_v c_v) ∧ w'.cell? ⟨bt, 0, none⟩ = some (.slice x_ta n_ta c_ta) ∧ w'.cell? ⟨bt, 1, none⟩ = some (.slice x_tb n_tb c_tb) ∧ w'.cell? ⟨bl, off + j * 2, none⟩ = some (.slice x_ea n_ea c_ea) ∧ w'.cell? ⟨bl, off + j * 2 + 1, none⟩ = some (.slice x_eb n_eb c_eb) ∧ w'.cell? ⟨bz, 0, none⟩ = some (.slice x_za n_za c_za) ∧ w'.cell? ⟨bz, 1, none⟩ = some (.slice x_zb n_zb c_zb))) (by kernel_rfl) ?_ (fun hHeld => ?_)
  · exact ⟨kc K0_m.out BB.out, kc K0_v.out BB.out, kc K0_t.out BB.out, kc K1_t.out BB.out, kc K0_e.out BB.out, kc K1_e.out BB.out, kc K0_z.out BB.out, kc K1_z.out BB.out⟩
  clear hdr
  generalize w.drew = wd at *
  refine wpAnyH_take (i := 0) (oi := { dst := some 152, op := Op.move (Operand.tmp 6), type := 32, pos := "laws.go:681", after := #[], guard := none }) (v := ?_) rfl (by kernel_rfl) (by kernel_rfl) (by kernel_rfl) (fun _ _ _ h => h) (Or.inl ⟨by rfl, ?_⟩) (by assumption) ?_
  rotate_left
  · intro w' hSw; (try dsimp only at hSw); first | (go_simp; done) | (go_simp; with_reducible rfl)
  (try simp only [Act.put, List.setIfInBounds_toArray, List.set_cons_zero, List.set_cons_succ])
  refine wpAnyH_take (i := 1) (oi := { dst := some 153, op := Op.load 29 (Operand.tmp 7), type := 29, pos := "laws.go:681", after := #[], guard := none }) (v := ?_) rfl (by kernel_rfl) (by kernel_rfl) (by kernel_rfl) (fun _ _ _ h => h) (Or.inl ⟨by rfl, ?_⟩) (by assumption) ?_
  rotate_left
  · intro w' hSw; (try dsimp only at hSw); first | (go_simp; done) | (go_simp; with_reducible rfl)
  (try simp only [Act.put, List.setIfInBounds_toArray, List.set_cons_zero, List.set_cons_succ])
  refine wpAnyH_take (i := 2) (oi := { dst := some 154, op := Op.load 29 (Operand.tmp 8), type := 29, pos := "laws.go:681", after := #[], guard := none }) (v := ?_) rfl (by kernel_rfl) (by kernel_rfl) (by kernel_rfl) (fun _ _ _ h => h) (Or.inl ⟨by rfl, ?_⟩) (by assumption) ?_
  rotate_left
  · intro w' hSw; (try dsimp only at hSw); first | (go_simp; done) | (go_simp; with_reducible rfl)
  (try simp only [Act.put, List.setIfInBounds_toArray, List.set_cons_zero, List.set_cons_succ])
  refine wpAnyH_take (i := 4) (oi := { dst := some 156, op := Op.move (Operand.tmp 17), type := 3, pos := "laws.go:681", after := #[], guard := none }) (v := ?_) rfl (by kernel_rfl) (by kernel_rfl) (by kernel_rfl) (fun _ _ _ h => h) (Or.inl ⟨by rfl, ?_⟩) (by assumption) ?_
  rotate_left
  · intro w' hSw; (try dsimp only at hSw); first | (go_simp; done) | (go_simp; with_reducible rfl)
  (try simp only [Act.put, List.setIfInBounds_toArray, List.set_cons_zero, List.set_cons_succ])
  refine wpAnyH_take (i := 5) (oi := { dst := some 157, op := Op.binOp BinOp.geq 3 (Operand.tmp 156) (Operand.const (Value.int IntKind.i64 0)) 3, type := 4, pos := "laws.go:681", after := #[{ on := 4, ground := Ground.data }], guard := none }) (v := ?_) rfl (by kernel_rfl) (by kernel_rfl) (by kernel_rfl) (fun _ _ _ h => h) (Or.inl ⟨by rfl, ?_⟩) (by assumption) ?_
  rotate_left
  · intro w' hSw; (try dsimp only at hSw); first | (go_simp; done) | (go_simp; with_reducible rfl)
  (try simp only [Act.put, List.setIfInBounds_toArray, List.set_cons_zero, List.set_cons_succ])
  refine wpAnyH_ready (rs := [3]) (by kernel_rfl) (by simp) ?_
  refine AllReadyH.cons (o := { dst := some 155, op := Op.call { callee := Callee.value (Operand.func 15), args := #[Operand.tmp 152, Operand.tmp 153, Operand.tmp 154], argTypes := #[32, 29, 29] }, type := 4, pos := "laws.go:681", after := #[{ on := 0, ground := Ground.data }, { on := 1, ground := Ground.data }, { on := 2, ground := Ground.data }], guard := none }) rfl (fun K hK => ?_) AllReadyH.nil
  go_simp
  refine (iAlV true HA.out (H_l.out.on BB.out) (H_m.out.on BB.out) (H_v.out.on BB.out) HRL.out h1 h2).mono ?_
  rintro e wn1 ⟨rfl, hb⟩
  replace BB := Lib.hid (BB.out.trans (hb.mono BB.out.size))
  clear hb
  (try go_wp2_with fail)
  clear hHeld
  refine hK.out _ _ ?_ (fun hHeld => ?_)
  · (try dsimp only); exact ⟨kc K0_m.out BB.out, kc K0_v.out BB.out, kc K0_t.out BB.out, kc K1_t.out BB.out, kc K0_e.out BB.out, kc K1_e.out BB.out, kc K0_z.out BB.out, kc K1_z.out BB.out⟩
  clear hK K
  (try simp only [Act.put, List.setIfInBounds_toArray, List.set_cons_zero, List.set_cons_succ])
  refine wpAnyH_take (i := 6) (oi := { dst := some 158, op := Op.binOp BinOp.eql 4 (Operand.tmp 155) (Operand.tmp 157) 4, type := 4, pos := "laws.go:681", after := #[{ on := 3, ground := Ground.data }, { on := 5, ground := Ground.data }], guard := none }) (v := ?_) rfl (by kernel_rfl) (by kernel_rfl) (by kernel_rfl) (fun _ _ _ h => h) (Or.inl ⟨by rfl, ?_⟩) (by assumption) ?_
  rotate_left
  · intro w' hSw; (try dsimp only at hSw); first | (go_simp; done) | (go_simp; with_reducible rfl)
  (try simp only [Act.put, List.setIfInBounds_toArray, List.set_cons_zero, List.set_cons_succ])
  refine wpAnyH_take (i := 7) (oi := { dst := some 159, op := Op.move (Operand.tmp 158), type := 4, pos := "laws.go:681", after := #[{ on := 6, ground := Ground.data }, { on := 3, ground := Ground.chain }], guard := none }) (v := ?_) rfl (by kernel_rfl) (by kernel_rfl) (by kernel_rfl) (fun _ _ _ h => h) (Or.inl ⟨by rfl, ?_⟩) (by assumption) ?_
  rotate_left
  · intro w' hSw; (try dsimp only at hSw); first | (go_simp; done) | (go_simp; with_reducible rfl)
  (try simp only [Act.put, List.setIfInBounds_toArray, List.set_cons_zero, List.set_cons_succ])
  refine wpAnyH_take (i := 8) (oi := { dst := some 160, op := Op.move (Operand.tmp 17), type := 3, pos := "laws.go:681", after := #[{ on := 7, ground := Ground.guard }], guard := some (7, true) }) (v := ?_) rfl (by kernel_rfl) (by kernel_rfl) (by kernel_rfl) (fun _ _ _ h => h) (Or.inl ⟨by rfl, ?_⟩) (by assumption) ?_
  rotate_left
  · intro w' hSw; (try dsimp only at hSw); first | (go_simp; done) | (go_simp; with_reducible rfl)
  (try simp only [Act.put, List.setIfInBounds_toArray, List.set_cons_zero, List.set_cons_succ])
  refine wpAnyH_take (i := 9) (oi := { dst := some 161, op := Op.binOp BinOp.lss 3 (Operand.tmp 160) (Operand.const (Value.int IntKind.i64 0)) 3, type := 4, pos := "laws.go:681", after := #[{ on := 8, ground := Ground.data }, { on := 7, ground := Ground.guard }], guard := some (7, true) }) (v := ?_) rfl (by kernel_rfl) (by kernel_rfl) (by kernel_rfl) (fun _ _ _ h => h) (Or.inl ⟨by rfl, ?_⟩) (by assumption) ?_
  rotate_left
  · intro w' hSw; (try dsimp only at hSw); first | (go_simp; done) | (go_simp; with_reducible rfl)
  (try simp only [Act.put, List.setIfInBounds_toArray, List.set_cons_zero, List.set_cons_succ])
  refine wpAnyH_take (i := 10) (oi := { dst := some 162, op := Op.move (Operand.tmp 161), type := 4, pos := "laws.go:681", after := #[{ on := 9, ground := Ground.data }, { on := 7, ground := Ground.chain }, { on := 7, ground := Ground.guard }], guard := some (7, true) }) (v := ?_) rfl (by kernel_rfl) (by kernel_rfl) (by kernel_rfl) (fun _ _ _ h => h) (Or.inl ⟨by rfl, ?_⟩) (by assumption) ?_
  rotate_left
  · intro w' hSw; (try dsimp only at hSw); first | (go_simp; done) | (go_simp; with_reducible rfl)
  (try simp only [Act.put, List.setIfInBounds_toArray, List.set_cons_zero, List.set_cons_succ])
  refine wpAnyH_take (i := 11) (oi := { dst := some 163, op := Op.move (Operand.tmp 6), type := 32, pos := "laws.go:681", after := #[{ on := 10, ground := Ground.guard }], guard := some (10, false) }) (v := ?_) rfl (by kernel_rfl) (by kernel_rfl) (by kernel_rfl) (fun _ _ _ h => h) (Or.inl ⟨by rfl, ?_⟩) (by assumption) ?_
  rotate_left
  · intro w' hSw; (try dsimp only at hSw); first | (go_simp; done) | (go_simp; with_reducible rfl)
  (try simp only [Act.put, List.setIfInBounds_toArray, List.set_cons_zero, List.set_cons_succ])
  refine wpAnyH_take (i := 12) (oi := { dst := some 164, op := Op.move (Operand.tmp 17), type := 3, pos := "laws.go:681", after := #[{ on := 10, ground := Ground.guard }], guard := some (10, false) }) (v := ?_) rfl (by kernel_rfl) (by kernel_rfl) (by kernel_rfl) (fun _ _ _ h => h) (Or.inl ⟨by rfl, ?_⟩) (by assumption) ?_
  rotate_left
  · intro w' hSw; (try dsimp only at hSw); first | (go_simp; done) | (go_simp; with_reducible rfl)
  (try simp only [Act.put, List.setIfInBounds_toArray, List.set_cons_zero, List.set_cons_succ])
  refine wpAnyH_take (i := 13) (oi := { dst := some 165, op := Op.indexAddr 32 (Operand.tmp 163) (Operand.tmp 164), type := 0, pos := "laws.go:681", after := #[{ on := 11, ground := Ground.data }, { on := 12, ground := Ground.data }, { on := 10, ground := Ground.guard }], guard := some (10, false) }) (v := ?_) rfl (by kernel_rfl) (by kernel_rfl) (by kernel_rfl) (fun _ _ _ h => h) (Or.inl ⟨by rfl, ?_⟩) (by assumption) ?_
  rotate_left
  · intro w' hSw; (try dsimp only at hSw); first | (go_simp; done) | (go_simp; with_reducible rfl)
  (try simp only [Act.put, List.setIfInBounds_toArray, List.set_cons_zero, List.set_cons_succ])
  refine wpAnyH_take (i := 14) (oi := { dst := some 166, op := Op.load 28 (Operand.tmp 165), type := 28, pos := "laws.go:681", after := #[{ on := 13, ground := Ground.data }, { on := 10, ground := Ground.guard }], guard := some (10, false) }) (v := ?_) rfl (by kernel_rfl) (by kernel_rfl) (by kernel_rfl) (fun _ _ _ h => h) (Or.inl ⟨by rfl, ?_⟩) (by assumption) ?_
  rotate_left
  · intro w' hSw; (try dsimp only at hSw); first | (go_simp; done) | (go_simp; with_reducible rfl)
  (try simp only [Act.put, List.setIfInBounds_toArray, List.set_cons_zero, List.set_cons_succ])
  refine wpAnyH_take (i := 15) (oi := { dst := some 167, op := Op.load 29 (Operand.tmp 7), type := 29, pos := "laws.go:681", after := #[{ on := 10, ground := Ground.guard }], guard := some (10, false) }) (v := ?_) rfl (by kernel_rfl) (by kernel_rfl) (by kernel_rfl) (fun _ _ _ h => h) (Or.inl ⟨by rfl, ?_⟩) (by assumption) ?_
  rotate_left
  · intro w' hSw; (try dsimp only at hSw); first | (go_simp; done) | (go_simp; with_reducible rfl)
  (try simp only [Act.put, List.setIfInBounds_toArray, List.set_cons_zero, List.set_cons_succ])
  refine wpAnyH_take (i := 16) (oi := { dst := some 168, op := Op.load 29 (Operand.tmp 8), type := 29, pos := "laws.go:681", after := #[{ on := 10, ground := Ground.guard }], guard := some (10, false) }) (v := ?_) rfl (by kernel_rfl) (by kernel_rfl) (by kernel_rfl) (fun _ _ _ h => h) (Or.inl ⟨by rfl, ?_⟩) (by assumption) ?_
  rotate_left
  · intro w' hSw; (try dsimp only at hSw); first | (go_simp; done) | (go_simp; with_reducible rfl)
  (try simp only [Act.put, List.setIfInBounds_toArray, List.set_cons_zero, List.set_cons_succ])
  refine wpAnyH_ready (rs := [17]) (by kernel_rfl) (by simp) ?_
  refine AllReadyH.cons (o := { dst := some 169, op := Op.call { callee := Callee.value (Operand.func 13), args := #[Operand.tmp 166, Operand.tmp 167, Operand.tmp 168], argTypes := #[28, 29, 29] }, type := 4, pos := "laws.go:681", after := #[{ on := 14, ground := Ground.data }, { on := 15, ground := Ground.data }, { on := 16, ground := Ground.data }, { on := 10, ground := Ground.chain }, { on := 10, ground := Ground.guard }], guard := some (10, false) }) rfl (fun K hK => ?_) AllReadyH.nil
  go_simp
  refine (iRaV true HE.out (H_e.out.on BB.out) (H_m.out.on BB.out) (H_v.out.on BB.out) he h1 h2).mono ?_
  rintro e wn2 ⟨rfl, hb⟩
  replace BB := Lib.hid (BB.out.trans (hb.mono BB.out.size))
  clear hb
  (try go_wp2_with fail)
  clear hHeld
  refine hK.out _ _ ?_ (fun hHeld => ?_)
  · (try dsimp only); exact ⟨kc K0_m.out BB.out, kc K0_v.out BB.out, kc K0_t.out BB.out, kc K1_t.out BB.out, kc K0_e.out BB.out, kc K1_e.out BB.out, kc K0_z.out BB.out, kc K1_z.out BB.out⟩
  clear hK K
  (try simp only [Act.put, List.setIfInBounds_toArray, List.set_cons_zero, List.set_cons_succ])
  refine wpAnyH_take (i := 18) (oi := { dst := some 170, op := Op.pick (Operand.tmp 162) (Operand.const (Value.bool true)) (Operand.tmp 169), type := 4, pos := "laws.go:681", after := #[{ on := 10, ground := Ground.data }, { on := 17, ground := Ground.data }, { on := 7, ground := Ground.guard }], guard := some (7, true) }) (v := ?_) rfl (by kernel_rfl) (by kernel_rfl) (by kernel_rfl) (fun _ _ _ h => h) (Or.inl ⟨by rfl, ?_⟩) (by assumption) ?_
  rotate_left
  · intro w' hSw; (try dsimp only at hSw); first | (go_simp; done) | (go_simp; with_reducible rfl)
  (try simp only [Act.put, List.setIfInBounds_toArray, List.set_cons_zero, List.set_cons_succ])
  refine wpAnyH_take (i := 19) (oi := { dst := some 171, op := Op.pick (Operand.tmp 159) (Operand.tmp 170) (Operand.const (Value.bool false)), type := 4, pos := "laws.go:681", after := #[{ on := 7, ground := Ground.data }, { on := 18, ground := Ground.data }], guard := none }) (v := ?_) rfl (by kernel_rfl) (by kernel_rfl) (by kernel_rfl) (fun _ _ _ h => h) (Or.inl ⟨by rfl, ?_⟩) (by assumption) ?_
  rotate_left
  · intro w' hSw; (try dsimp only at hSw); first | (go_simp; done) | (go_simp; with_reducible rfl)
  (try simp only [Act.put, List.setIfInBounds_toArray, List.set_cons_zero, List.set_cons_succ])
  refine wpAnyH_take (i := 20) (oi := { dst := some 172, op := Op.move (Operand.tmp 171), type := 4, pos := "laws.go:681", after := #[{ on := 19, ground := Ground.data }, { on := 17, ground := Ground.chain }], guard := none }) (v := ?_) rfl (by kernel_rfl) (by kernel_rfl) (by kernel_rfl) (fun _ _ _ h => h) (Or.inl ⟨by rfl, ?_⟩) (by assumption) ?_
  rotate_left
  · intro w' hSw; (try dsimp only at hSw); first | (go_simp; done) | (go_simp; with_reducible rfl)
  (try simp only [Act.put, List.setIfInBounds_toArray, List.set_cons_zero, List.set_cons_succ])
  refine wpAnyH_take (i := 21) (oi := { dst := some 173, op := Op.load 28 (Operand.tmp 14), type := 28, pos := "laws.go:681", after := #[{ on := 20, ground := Ground.guard }], guard := some (20, true) }) (v := ?_) rfl (by kernel_rfl) (by kernel_rfl) (by kernel_rfl) (fun _ _ _ h => h) (Or.inl ⟨by rfl, ?_⟩) (by assumption) ?_
  rotate_left
  · intro w' hSw; (try dsimp only at hSw); first | (go_simp; done) | (go_simp; with_reducible rfl)
  (try simp only [Act.put, List.setIfInBounds_toArray, List.set_cons_zero, List.set_cons_succ])
  refine wpAnyH_ready (rs := [22]) (by kernel_rfl) (by simp) ?_
  refine AllReadyH.cons (o := { dst := some 174, op := Op.call { callee := Callee.value (Operand.func 24), args := #[Operand.tmp 173], argTypes := #[28] }, type := 4, pos := "laws.go:681", after := #[{ on := 21, ground := Ground.data }, { on := 20, ground := Ground.chain }, { on := 20, ground := Ground.guard }], guard := some (20, true) }) rfl (fun K hK => ?_) AllReadyH.nil
  go_simp
  refine (iVrV true HV.out (H_t.out.on BB.out) h3).mono ?_
  rintro e wn3 ⟨rfl, hb⟩
  replace BB := Lib.hid (BB.out.trans (hb.mono BB.out.size))
  clear hb
  (try go_wp2_with fail)
  clear hHeld
  refine hK.out _ _ ?_ (fun hHeld => ?_)
  · (try dsimp only); exact ⟨kc K0_m.out BB.out, kc K0_v.out BB.out, kc K0_t.out BB.out, kc K1_t.out BB.out, kc K0_e.out BB.out, kc K1_e.out BB.out, kc K0_z.out BB.out, kc K1_z.out BB.out⟩
  clear hK K
  (try simp only [Act.put, List.setIfInBounds_toArray, List.set_cons_zero, List.set_cons_succ])
  refine wpAnyH_take (i := 23) (oi := { dst := some 175, op := Op.unOp UnOp.not 4 (Operand.tmp 174), type := 4, pos := "laws.go:681", after := #[{ on := 22, ground := Ground.data }, { on := 20, ground := Ground.guard }], guard := some (20, true) }) (v := ?_) rfl (by kernel_rfl) (by kernel_rfl) (by kernel_rfl) (fun _ _ _ h => h) (Or.inl ⟨by rfl, ?_⟩) (by assumption) ?_
  rotate_left
  · intro w' hSw; (try dsimp only at hSw); first | (go_simp; done) | (go_simp; with_reducible rfl)
  (try simp only [Act.put, List.setIfInBounds_toArray, List.set_cons_zero, List.set_cons_succ])
  refine wpAnyH_take (i := 24) (oi := { dst := some 176, op := Op.move (Operand.tmp 175), type := 4, pos := "laws.go:681", after := #[{ on := 23, ground := Ground.data }, { on := 22, ground := Ground.chain }, { on := 20, ground := Ground.guard }], guard := some (20, true) }) (v := ?_) rfl (by kernel_rfl) (by kernel_rfl) (by kernel_rfl) (fun _ _ _ h => h) (Or.inl ⟨by rfl, ?_⟩) (by assumption) ?_
  rotate_left
  · intro w' hSw; (try dsimp only at hSw); first | (go_simp; done) | (go_simp; with_reducible rfl)
  (try simp only [Act.put, List.setIfInBounds_toArray, List.set_cons_zero, List.set_cons_succ])
  refine wpAnyH_take (i := 25) (oi := { dst := some 177, op := Op.move (Operand.tmp 19), type := 4, pos := "laws.go:681", after := #[{ on := 24, ground := Ground.guard }], guard := some (24, false) }) (v := ?_) rfl (by kernel_rfl) (by kernel_rfl) (by kernel_rfl) (fun _ _ _ h => h) (Or.inl ⟨by rfl, ?_⟩) (by assumption) ?_
  rotate_left
  · intro w' hSw; (try dsimp only at hSw); first | (go_simp; done) | (go_simp; with_reducible rfl)
  (try simp only [Act.put, List.setIfInBounds_toArray, List.set_cons_zero, List.set_cons_succ])
  refine wpAnyH_take (i := 26) (oi := { dst := some 178, op := Op.move (Operand.tmp 177), type := 4, pos := "laws.go:681", after := #[{ on := 25, ground := Ground.data }, { on := 24, ground := Ground.chain }, { on := 24, ground := Ground.guard }], guard := some (24, false) }) (v := ?_) rfl (by kernel_rfl) (by kernel_rfl) (by kernel_rfl) (fun _ _ _ h => h) (Or.inl ⟨by rfl, ?_⟩) (by assumption) ?_
  rotate_left
  · intro w' hSw; (try dsimp only at hSw); first | (go_simp; done) | (go_simp; with_reducible rfl)
  (try simp only [Act.put, List.setIfInBounds_toArray, List.set_cons_zero, List.set_cons_succ])
  refine wpAnyH_take (i := 27) (oi := { dst := some 179, op := Op.load 28 (Operand.tmp 18), type := 28, pos := "laws.go:681", after := #[{ on := 26, ground := Ground.guard }], guard := some (26, true) }) (v := ?_) rfl (by kernel_rfl) (by kernel_rfl) (by kernel_rfl) (fun _ _ _ h => h) (Or.inl ⟨by rfl, ?_⟩) (by assumption) ?_
  rotate_left
  · intro w' hSw; (try dsimp only at hSw); first | (go_simp; done) | (go_simp; with_reducible rfl)
  (try simp only [Act.put, List.setIfInBounds_toArray, List.set_cons_zero, List.set_cons_succ])
  refine wpAnyH_take (i := 28) (oi := { dst := some 180, op := Op.load 28 (Operand.tmp 14), type := 28, pos := "laws.go:681", after := #[{ on := 26, ground := Ground.guard }], guard := some (26, true) }) (v := ?_) rfl (by kernel_rfl) (by kernel_rfl) (by kernel_rfl) (fun _ _ _ h => h) (Or.inl ⟨by rfl, ?_⟩) (by assumption) ?_
  rotate_left
  · intro w' hSw; (try dsimp only at hSw); first | (go_simp; done) | (go_simp; with_reducible rfl)
  (try simp only [Act.put, List.setIfInBounds_toArray, List.set_cons_zero, List.set_cons_succ])
  refine wpAnyH_ready (rs := [29]) (by kernel_rfl) (by simp) ?_
  refine AllReadyH.cons (o := { dst := some 181, op := Op.call { callee := Callee.value (Operand.func 20), args := #[Operand.tmp 179, Operand.tmp 180], argTypes := #[28, 28] }, type := 4, pos := "laws.go:681", after := #[{ on := 27, ground := Ground.data }, { on := 28, ground := Ground.data }, { on := 26, ground := Ground.chain }, { on := 26, ground := Ground.guard }], guard := some (26, true) }) rfl (fun K hK => ?_) AllReadyH.nil
  go_simp
  refine (iErV true (decide_eq_true rfl) (H_z.out.on BB.out) (H_t.out.on BB.out) h3 h3).mono ?_
  rintro e wn4 ⟨rfl, hb⟩
  replace BB := Lib.hid (BB.out.trans (hb.mono BB.out.size))
  clear hb
  (try go_wp2_with fail)
  clear hHeld
  refine hK.out _ _ ?_ (fun hHeld => ?_)
  · (try dsimp only); exact ⟨kc K0_m.out BB.out, kc K0_v.out BB.out, kc K0_t.out BB.out, kc K1_t.out BB.out, kc K0_e.out BB.out, kc K1_e.out BB.out, kc K0_z.out BB.out, kc K1_z.out BB.out⟩
  clear hK K
  (try simp only [Act.put, List.setIfInBounds_toArray, List.set_cons_zero, List.set_cons_succ])
  refine wpAnyH_take (i := 30) (oi := { dst := some 182, op := Op.pick (Operand.tmp 178) (Operand.tmp 181) (Operand.const (Value.bool false)), type := 4, pos := "laws.go:681", after := #[{ on := 26, ground := Ground.data }, { on := 29, ground := Ground.data }, { on := 24, ground := Ground.guard }], guard := some (24, false) }) (v := ?_) rfl (by kernel_rfl) (by kernel_rfl) (by kernel_rfl) (fun _ _ _ h => h) (Or.inl ⟨by rfl, ?_⟩) (by assumption) ?_
  rotate_left
  · intro w' hSw; (try dsimp only at hSw); first | (go_simp; done) | (go_simp; with_reducible rfl)
  (try simp only [Act.put, List.setIfInBounds_toArray, List.set_cons_zero, List.set_cons_succ])
  refine wpAnyH_take (i := 31) (oi := { dst := some 183, op := Op.pick (Operand.tmp 176) (Operand.const (Value.bool true)) (Operand.tmp 182), type := 4, pos := "laws.go:681", after := #[{ on := 24, ground := Ground.data }, { on := 30, ground := Ground.data }, { on := 20, ground := Ground.guard }], guard := some (20, true) }) (v := ?_) rfl (by kernel_rfl) (by kernel_rfl) (by kernel_rfl) (fun _ _ _ h => h) (Or.inl ⟨by rfl, ?_⟩) (by assumption) ?_
  rotate_left
  · intro w' hSw; (try dsimp only at hSw); first | (go_simp; done) | (go_simp; with_reducible rfl)
  (try simp only [Act.put, List.setIfInBounds_toArray, List.set_cons_zero, List.set_cons_succ])
  refine wpAnyH_take (i := 32) (oi := { dst := some 184, op := Op.pick (Operand.tmp 172) (Operand.tmp 183) (Operand.const (Value.bool false)), type := 4, pos := "laws.go:681", after := #[{ on := 20, ground := Ground.data }, { on := 31, ground := Ground.data }], guard := none }) (v := ?_) rfl (by kernel_rfl) (by kernel_rfl) (by kernel_rfl) (fun _ _ _ h => h) (Or.inl ⟨by rfl, ?_⟩) (by assumption) ?_
  rotate_left
  · intro w' hSw; (try dsimp only at hSw); first | (go_simp; done) | (go_simp; with_reducible rfl)
  (try simp only [Act.put, List.setIfInBounds_toArray, List.set_cons_zero, List.set_cons_succ])
  refine wpAnyH_take (i := 33) (oi := { dst := some 2, op := Op.assign (Operand.tmp 184), type := 4, pos := "laws.go:681", after := #[{ on := 32, ground := Ground.data }, { on := 29, ground := Ground.chain }, { on := 0, ground := Ground.phase }, { on := 1, ground := Ground.phase }, { on := 2, ground := Ground.phase }, { on := 3, ground := Ground.phase }, { on := 4, ground := Ground.phase }, { on := 5, ground := Ground.phase }, { on := 6, ground := Ground.phase }, { on := 7, ground := Ground.phase }, { on := 8, ground := Ground.phase }, { on := 9, ground := Ground.phase }, { on := 10, ground := Ground.phase }, { on := 11, ground := Ground.phase }, { on := 12, ground := Ground.phase }, { on := 13, ground := Ground.phase }, { on := 14, ground := Ground.phase }, { on := 15, ground := Ground.phase }, { on := 16, ground := Ground.phase }, { on := 17, ground := Ground.phase }, { on := 18, ground := Ground.phase }, { on := 19, ground := Ground.phase }, { on := 20, ground := Ground.phase }, { on := 21, ground := Ground.phase }, { on := 22, ground := Ground.phase }, { on := 23, ground := Ground.phase }, { on := 24, ground := Ground.phase }, { on := 25, ground := Ground.phase }, { on := 26, ground := Ground.phase }, { on := 27, ground := Ground.phase }, { on := 28, ground := Ground.phase }, { on := 29, ground := Ground.phase }, { on := 30, ground := Ground.phase }, { on := 31, ground := Ground.phase }, { on := 32, ground := Ground.phase }], guard := none }) (v := ?_) rfl (by kernel_rfl) (by kernel_rfl) (by kernel_rfl) (fun _ _ _ h => h) (Or.inl ⟨by rfl, ?_⟩) (by assumption) ?_
  rotate_left
  · intro w' hSw; (try dsimp only at hSw); first | (go_simp; done) | (go_simp; with_reducible rfl)
  (try simp only [Act.put, List.setIfInBounds_toArray, List.set_cons_zero, List.set_cons_succ])
  refine wpAnyH_done (by kernel_rfl) ?_ _
  exact NoPanic.normal (HQ.out _ _ _ _ _ _ _ _ _ _ _ _ _ _ _ _ _ _ _ _ _ _ _ _ _ _ _ _ _ _ _ _ _  _  BB.out)

end Go.Proofs.YtkojeajjappchaaGreat.Row
