/- Contracts and mathematics, joined: RegK13, DrawR2. No conditions but those that each states. -/
import Derived.WalkKit
import Derived.Deep.RegionHeld3
import Derived.Test.YtnblopilgfdjkaaGreatB22
import Derived.Test.YtnblopilgfdjkaaGreatB14
import Derived.Test.YtnblopilgfdjkaaGreatB21
/- The second region of FnKeys that draws: whatever order is drawn, its last value is false. No conditions. -/
namespace Go.Proofs.YtnblopilgfdjkaaGreat.Row.Ring
open Go.ChangeShapes Go.WideShapes Go.ChangeAt Go.RowKit Go.Instr
set_option linter.unusedVariables false
set_option maxRecDepth 100000

set_option maxRecDepth 100000 in
set_option maxHeartbeats 4000000 in
theorem regK13t {Q : Exit → Act → World → Prop} {v0 v1 v2 v3 v4 v5 v6 v7 v8 v9 v10 v11 v12 v13 v14 v18 v19 v20 v21 v22 v23 v24 v25 v26 v27 v28 v29 v30 v31 v32 v33 v34 v35 v36 v37 v38 v39 v40 v41 v42 v43 v44 v45 v46 v47 v48 v49 v50 v51 v52 v53 v54 v55 v56 v57 v58 v59 v60 v61 v62 v63 v64 v65 v66 v67 v68 v69 v70 v71 v72 v73 v74 v75 v76 v77 v78 v79 v80 v81 v82 v83 v84 v85 v86 v87 v88 v89 v90 v91 v92 v93 v94 v95 v96 v97 v98 v99 v100 v101 v102 v103 v104 v105 v106 v107 v108 v109 v110 v111 v112 v113 v114 v115 v116 v117 v118 v119 v120 v121 v122 v123 v124 v125 v126 v127 v128 v129 v130 v131 v132 v133 v134 v135 v136 v137 v138 v139 v140 v141 v142 v143 v144 v145 v146 v147 v148 v149 v150 v151 v152 v153 v154 v155 v156 v157 v158 v159 v160 v161 v162 v163 v164 v165 v166 v167 v168 v169 v170 v171 v172 v173 v174 v175 v176 v177 v178 v179 v180 v181 v182 v183 : Value} {w : World} {bk : Nat} {tc : Kt} {xk : K1} {x_c : Option Addr} {n_c c_c : Nat} {x_k : Option Addr} {n_k c_k : Nat} (H_c : Hid (kK.At w (.slice x_c n_c c_c) tc)) (H_k : Hid (k1.At w (.agg #[.slice x_k n_k c_k, .int .i64 xk.2]) xk)) (HKc : Hid (KL tc)) (HL : Hid (lkN tc xk.1 = xk.2)) (HV : Hid (validK tc = true)) (h1 : bulk xk.1 ≤ 1000) (K0_k : Hid (w.cell? ⟨bk, 0, none⟩ = some (.slice x_k n_k c_k))) (K1_k : Hid (w.cell? ⟨bk, 1, none⟩ = some (.int .i64 xk.2)))
    (hQ : ∀ (u139 u140 u141 u142 u143 u144 u145 u146 u147 u148 u149 u150 u151 u152 : Value)  (wx : World), Below w.heap.size w wx → Q .normal ⟨#[v0, v1, v2, v3, v4, v5, v6, v7, v8, v9, v10, v11, v12, v13, v14, .pointer (some ⟨bk, 0, none⟩), .slice x_c n_c c_c, .bool true, v18, v19, v20, v21, v22, v23, v24, v25, v26, v27, v28, v29, v30, v31, v32, v33, v34, v35, v36, v37, v38, v39, v40, v41, v42, v43, v44, v45, v46, v47, v48, v49, v50, v51, v52, v53, v54, v55, v56, v57, v58, v59, v60, v61, v62, v63, v64, v65, v66, v67, v68, v69, v70, v71, v72, v73, v74, v75, v76, v77, v78, v79, v80, v81, v82, v83, v84, v85, v86, v87, v88, v89, v90, v91, v92, v93, v94, v95, v96, v97, v98, v99, v100, v101, v102, v103, v104, v105, v106, v107, v108, v109, v110, v111, v112, v113, v114, v115, v116, v117, v118, v119, v120, v121, v122, v123, v124, v125, v126, v127, v128, v129, v130, v131, v132, v133, v134, v135, v136, v137, v138, u139, u140, u141, u142, u143, u144, u145, u146, u147, u148, u149, u150, u151, u152, .bool false, v154, v155, v156, v157, v158, v159, v160, v161, v162, v163, v164, v165, v166, v167, v168, v169, v170, v171, v172, v173, v174, v175, v176, v177, v178, v179, v180, v181, v182, v183], []⟩ wx) :
    (Code.region 13 #[{ dst := some 139, op := Op.move (Operand.tmp 17), type := 4, pos := "laws.go:652", after := #[], guard := none },
      { dst := some 140, op := Op.move (Operand.tmp 139), type := 4, pos := "laws.go:652", after := #[{ on := 0, ground := Ground.data }], guard := none },
      { dst := some 141, op := Op.move (Operand.tmp 16), type := 24, pos := "laws.go:652", after := #[{ on := 1, ground := Ground.guard }], guard := some (1, true) },
      { dst := some 142, op := Op.fieldAddr 37 (Operand.tmp 15) 0, type := 0, pos := "laws.go:652", after := #[{ on := 1, ground := Ground.guard }], guard := some (1, true) },
      { dst := some 143, op := Op.load 27 (Operand.tmp 142), type := 27, pos := "laws.go:652", after := #[{ on := 3, ground := Ground.data }, { on := 1, ground := Ground.guard }], guard := some (1, true) },
      { dst := some 144, op := Op.call { callee := Callee.value (Operand.func 20), args := #[Operand.tmp 141, Operand.tmp 143], argTypes := #[24, 27] }, type := 3, pos := "laws.go:652", after := #[{ on := 2, ground := Ground.data }, { on := 4, ground := Ground.data }, { on := 1, ground := Ground.chain }, { on := 1, ground := Ground.guard }], guard := some (1, true) },
      { dst := some 145, op := Op.fieldAddr 37 (Operand.tmp 15) 1, type := 0, pos := "laws.go:652", after := #[{ on := 1, ground := Ground.guard }], guard := some (1, true) },
      { dst := some 146, op := Op.load 3 (Operand.tmp 145), type := 3, pos := "laws.go:652", after := #[{ on := 6, ground := Ground.data }, { on := 1, ground := Ground.guard }], guard := some (1, true) },
      { dst := some 147, op := Op.binOp BinOp.neq 3 (Operand.tmp 144) (Operand.tmp 146) 3, type := 4, pos := "laws.go:652", after := #[{ on := 5, ground := Ground.data }, { on := 7, ground := Ground.data }, { on := 1, ground := Ground.guard }], guard := some (1, true) },
      { dst := some 148, op := Op.move (Operand.tmp 147), type := 4, pos := "laws.go:652", after := #[{ on := 8, ground := Ground.data }, { on := 5, ground := Ground.chain }, { on := 1, ground := Ground.guard }], guard := some (1, true) },
      { dst := some 149, op := Op.move (Operand.tmp 16), type := 24, pos := "laws.go:652", after := #[{ on := 9, ground := Ground.guard }], guard := some (9, false) },
      { dst := some 150, op := Op.call { callee := Callee.value (Operand.func 22), args := #[Operand.tmp 149], argTypes := #[24] }, type := 4, pos := "laws.go:652", after := #[{ on := 10, ground := Ground.data }, { on := 9, ground := Ground.chain }, { on := 9, ground := Ground.guard }], guard := some (9, false) },
      { dst := some 151, op := Op.unOp UnOp.not 4 (Operand.tmp 150), type := 4, pos := "laws.go:652", after := #[{ on := 11, ground := Ground.data }, { on := 9, ground := Ground.guard }], guard := some (9, false) },
      { dst := some 152, op := Op.pick (Operand.tmp 148) (Operand.const (Value.bool true)) (Operand.tmp 151), type := 4, pos := "laws.go:652", after := #[{ on := 9, ground := Ground.data }, { on := 12, ground := Ground.data }, { on := 1, ground := Ground.guard }], guard := some (1, true) },
      { dst := some 153, op := Op.pick (Operand.tmp 140) (Operand.tmp 152) (Operand.const (Value.bool false)), type := 4, pos := "laws.go:652", after := #[{ on := 1, ground := Ground.data }, { on := 13, ground := Ground.data }], guard := none }] true).wp Tryz.prog Q ⟨#[v0, v1, v2, v3, v4, v5, v6, v7, v8, v9, v10, v11, v12, v13, v14, .pointer (some ⟨bk, 0, none⟩), .slice x_c n_c c_c, .bool true, v18, v19, v20, v21, v22, v23, v24, v25, v26, v27, v28, v29, v30, v31, v32, v33, v34, v35, v36, v37, v38, v39, v40, v41, v42, v43, v44, v45, v46, v47, v48, v49, v50, v51, v52, v53, v54, v55, v56, v57, v58, v59, v60, v61, v62, v63, v64, v65, v66, v67, v68, v69, v70, v71, v72, v73, v74, v75, v76, v77, v78, v79, v80, v81, v82, v83, v84, v85, v86, v87, v88, v89, v90, v91, v92, v93, v94, v95, v96, v97, v98, v99, v100, v101, v102, v103, v104, v105, v106, v107, v108, v109, v110, v111, v112, v113, v114, v115, v116, v117, v118, v119, v120, v121, v122, v123, v124, v125, v126, v127, v128, v129, v130, v131, v132, v133, v134, v135, v136, v137, v138, v139, v140, v141, v142, v143, v144, v145, v146, v147, v148, v149, v150, v151, v152, v153, v154, v155, v156, v157, v158, v159, v160, v161, v162, v163, v164, v165, v166, v167, v168, v169, v170, v171, v172, v173, v174, v175, v176, v177, v178, v179, v180, v181, v182, v183], []⟩ w := by
  have HQ := Lib.hid hQ; clear hQ
  have hdr : Below w.heap.size w w.drew := (Below.refl _ _).drew
  have BB := Lib.hid hdr
  refine wp_region_noPanic ?_
  refine wp_region_held_drew (S := (fun w' => w'.cell? ⟨bk, 0, none⟩ = some (.slice x_k n_k c_k) ∧ w'.cell? ⟨bk, 1, none⟩ = some (.int .i64 xk.2))) (by kernel_rfl) ?_ (fun hHeld => ?_)
  · exact ⟨kc K0_k.out BB.out, kc K1_k.out BB.out⟩
  clear hdr
  generalize w.drew = wd at *
  refine wpAnyH_take (i := 0) (oi := { dst := some 139, op := Op.move (Operand.tmp 17), type := 4, pos := "laws.go:652", after := #[], guard := none }) (v := ?_) rfl (by kernel_rfl) (by kernel_rfl) (by kernel_rfl) (fun _ _ _ h => h) (Or.inl ⟨by rfl, ?_⟩) (by assumption) ?_
  rotate_left
  · intro w' hSw; (try dsimp only at hSw); first | (go_simp; done) | (go_simp; with_reducible rfl)
  (try simp only [Act.put, List.setIfInBounds_toArray, List.set_cons_zero, List.set_cons_succ])
  refine wpAnyH_take (i := 1) (oi := { dst := some 140, op := Op.move (Operand.tmp 139), type := 4, pos := "laws.go:652", after := #[{ on := 0, ground := Ground.data }], guard := none }) (v := ?_) rfl (by kernel_rfl) (by kernel_rfl) (by kernel_rfl) (fun _ _ _ h => h) (Or.inl ⟨by rfl, ?_⟩) (by assumption) ?_
  rotate_left
  · intro w' hSw; (try dsimp only at hSw); first | (go_simp; done) | (go_simp; with_reducible rfl)
  (try simp only [Act.put, List.setIfInBounds_toArray, List.set_cons_zero, List.set_cons_succ])
  refine wpAnyH_take (i := 2) (oi := { dst := some 141, op := Op.move (Operand.tmp 16), type := 24, pos := "laws.go:652", after := #[{ on := 1, ground := Ground.guard }], guard := some (1, true) }) (v := ?_) rfl (by kernel_rfl) (by kernel_rfl) (by kernel_rfl) (fun _ _ _ h => h) (Or.inl ⟨by rfl, ?_⟩) (by assumption) ?_
  rotate_left
  · intro w' hSw; (try dsimp only at hSw); first | (go_simp; done) | (go_simp; with_reducible rfl)
  (try simp only [Act.put, List.setIfInBounds_toArray, List.set_cons_zero, List.set_cons_succ])
  refine wpAnyH_take (i := 3) (oi := { dst := some 142, op := Op.fieldAddr 37 (Operand.tmp 15) 0, type := 0, pos := "laws.go:652", after := #[{ on := 1, ground := Ground.guard }], guard := some (1, true) }) (v := ?_) rfl (by kernel_rfl) (by kernel_rfl) (by kernel_rfl) (fun _ _ _ h => h) (Or.inl ⟨by rfl, ?_⟩) (by assumption) ?_
  rotate_left
  · intro w' hSw; (try dsimp only at hSw); first | (go_simp; done) | (go_simp; with_reducible rfl)
  (try simp only [Act.put, List.setIfInBounds_toArray, List.set_cons_zero, List.set_cons_succ])
  refine wpAnyH_take (i := 4) (oi := { dst := some 143, op := Op.load 27 (Operand.tmp 142), type := 27, pos := "laws.go:652", after := #[{ on := 3, ground := Ground.data }, { on := 1, ground := Ground.guard }], guard := some (1, true) }) (v := ?_) rfl (by kernel_rfl) (by kernel_rfl) (by kernel_rfl) (fun _ _ _ h => h) (Or.inl ⟨by rfl, ?_⟩) (by assumption) ?_
  rotate_left
  · intro w' hSw; (try dsimp only at hSw); first | (go_simp; done) | (go_simp; with_reducible rfl)
  (try simp only [Act.put, List.setIfInBounds_toArray, List.set_cons_zero, List.set_cons_succ])
  refine wpAnyH_take (i := 6) (oi := { dst := some 145, op := Op.fieldAddr 37 (Operand.tmp 15) 1, type := 0, pos := "laws.go:652", after := #[{ on := 1, ground := Ground.guard }], guard := some (1, true) }) (v := ?_) rfl (by kernel_rfl) (by kernel_rfl) (by kernel_rfl) (fun _ _ _ h => h) (Or.inl ⟨by rfl, ?_⟩) (by assumption) ?_
  rotate_left
  · intro w' hSw; (try dsimp only at hSw); first | (go_simp; done) | (go_simp; with_reducible rfl)
  (try simp only [Act.put, List.setIfInBounds_toArray, List.set_cons_zero, List.set_cons_succ])
  refine wpAnyH_take (i := 7) (oi := { dst := some 146, op := Op.load 3 (Operand.tmp 145), type := 3, pos := "laws.go:652", after := #[{ on := 6, ground := Ground.data }, { on := 1, ground := Ground.guard }], guard := some (1, true) }) (v := ?_) rfl (by kernel_rfl) (by kernel_rfl) (by kernel_rfl) (fun _ _ _ h => h) (Or.inl ⟨by rfl, ?_⟩) (by assumption) ?_
  rotate_left
  · intro w' hSw; (try dsimp only at hSw); first | (go_simp; done) | (go_simp; with_reducible rfl)
  (try simp only [Act.put, List.setIfInBounds_toArray, List.set_cons_zero, List.set_cons_succ])
  refine wpAnyH_ready (rs := [5]) (by kernel_rfl) (by simp) ?_
  refine AllReadyH.cons (o := { dst := some 144, op := Op.call { callee := Callee.value (Operand.func 20), args := #[Operand.tmp 141, Operand.tmp 143], argTypes := #[24, 27] }, type := 3, pos := "laws.go:652", after := #[{ on := 2, ground := Ground.data }, { on := 4, ground := Ground.data }, { on := 1, ground := Ground.chain }, { on := 1, ground := Ground.guard }], guard := some (1, true) }) rfl (fun K hK => ?_) AllReadyH.nil
  go_simp
  refine (iSoV xk.2 HL.out (H_c.out.on BB.out) (kn1 (H_k.out.on BB.out)) HKc.out h1).mono ?_
  rintro e wn1 ⟨rfl, hb⟩
  replace BB := Lib.hid (BB.out.trans (hb.mono BB.out.size))
  clear hb
  (try go_wp2_with fail)
  clear hHeld
  refine hK.out _ _ ?_ (fun hHeld => ?_)
  · (try dsimp only); exact ⟨kc K0_k.out BB.out, kc K1_k.out BB.out⟩
  clear hK K
  (try simp only [Act.put, List.setIfInBounds_toArray, List.set_cons_zero, List.set_cons_succ])
  refine wpAnyH_take (i := 8) (oi := { dst := some 147, op := Op.binOp BinOp.neq 3 (Operand.tmp 144) (Operand.tmp 146) 3, type := 4, pos := "laws.go:652", after := #[{ on := 5, ground := Ground.data }, { on := 7, ground := Ground.data }, { on := 1, ground := Ground.guard }], guard := some (1, true) }) (v := ?_) rfl (by kernel_rfl) (by kernel_rfl) (by kernel_rfl) (fun _ _ _ h => h) (Or.inl ⟨by rfl, ?_⟩) (by assumption) ?_
  rotate_left
  · intro w' hSw; (try dsimp only at hSw); first | (go_simp; done) | (go_simp; with_reducible rfl)
  (try simp only [Act.put, List.setIfInBounds_toArray, List.set_cons_zero, List.set_cons_succ])
  refine wpAnyH_take (i := 9) (oi := { dst := some 148, op := Op.move (Operand.tmp 147), type := 4, pos := "laws.go:652", after := #[{ on := 8, ground := Ground.data }, { on := 5, ground := Ground.chain }, { on := 1, ground := Ground.guard }], guard := some (1, true) }) (v := ?_) rfl (by kernel_rfl) (by kernel_rfl) (by kernel_rfl) (fun _ _ _ h => h) (Or.inl ⟨by rfl, ?_⟩) (by assumption) ?_
  rotate_left
  · intro w' hSw; (try dsimp only at hSw); first | (go_simp; done) | (go_simp; with_reducible rfl)
  (try simp only [Act.put, List.setIfInBounds_toArray, List.set_cons_zero, List.set_cons_succ])
  refine wpAnyH_take (i := 10) (oi := { dst := some 149, op := Op.move (Operand.tmp 16), type := 24, pos := "laws.go:652", after := #[{ on := 9, ground := Ground.guard }], guard := some (9, false) }) (v := ?_) rfl (by kernel_rfl) (by kernel_rfl) (by kernel_rfl) (fun _ _ _ h => h) (Or.inl ⟨by rfl, ?_⟩) (by assumption) ?_
  rotate_left
  · intro w' hSw; (try dsimp only at hSw); first | (go_simp; done) | (go_simp; with_reducible rfl)
  (try simp only [Act.put, List.setIfInBounds_toArray, List.set_cons_zero, List.set_cons_succ])
  refine wpAnyH_ready (rs := [11]) (by kernel_rfl) (by simp) ?_
  refine AllReadyH.cons (o := { dst := some 150, op := Op.call { callee := Callee.value (Operand.func 22), args := #[Operand.tmp 149], argTypes := #[24] }, type := 4, pos := "laws.go:652", after := #[{ on := 10, ground := Ground.data }, { on := 9, ground := Ground.chain }, { on := 9, ground := Ground.guard }], guard := some (9, false) }) rfl (fun K hK => ?_) AllReadyH.nil
  go_simp
  refine (iVkV true HV.out (H_c.out.on BB.out) HKc.out).mono ?_
  rintro e wn2 ⟨rfl, hb⟩
  replace BB := Lib.hid (BB.out.trans (hb.mono BB.out.size))
  clear hb
  (try go_wp2_with fail)
  clear hHeld
  refine hK.out _ _ ?_ (fun hHeld => ?_)
  · (try dsimp only); exact ⟨kc K0_k.out BB.out, kc K1_k.out BB.out⟩
  clear hK K
  (try simp only [Act.put, List.setIfInBounds_toArray, List.set_cons_zero, List.set_cons_succ])
  refine wpAnyH_take (i := 12) (oi := { dst := some 151, op := Op.unOp UnOp.not 4 (Operand.tmp 150), type := 4, pos := "laws.go:652", after := #[{ on := 11, ground := Ground.data }, { on := 9, ground := Ground.guard }], guard := some (9, false) }) (v := ?_) rfl (by kernel_rfl) (by kernel_rfl) (by kernel_rfl) (fun _ _ _ h => h) (Or.inl ⟨by rfl, ?_⟩) (by assumption) ?_
  rotate_left
  · intro w' hSw; (try dsimp only at hSw); first | (go_simp; done) | (go_simp; with_reducible rfl)
  (try simp only [Act.put, List.setIfInBounds_toArray, List.set_cons_zero, List.set_cons_succ])
  refine wpAnyH_take (i := 13) (oi := { dst := some 152, op := Op.pick (Operand.tmp 148) (Operand.const (Value.bool true)) (Operand.tmp 151), type := 4, pos := "laws.go:652", after := #[{ on := 9, ground := Ground.data }, { on := 12, ground := Ground.data }, { on := 1, ground := Ground.guard }], guard := some (1, true) }) (v := ?_) rfl (by kernel_rfl) (by kernel_rfl) (by kernel_rfl) (fun _ _ _ h => h) (Or.inl ⟨by rfl, ?_⟩) (by assumption) ?_
  rotate_left
  · intro w' hSw; (try dsimp only at hSw); first | (go_simp; done) | (go_simp; with_reducible rfl)
  (try simp only [Act.put, List.setIfInBounds_toArray, List.set_cons_zero, List.set_cons_succ])
  refine wpAnyH_take (i := 14) (oi := { dst := some 153, op := Op.pick (Operand.tmp 140) (Operand.tmp 152) (Operand.const (Value.bool false)), type := 4, pos := "laws.go:652", after := #[{ on := 1, ground := Ground.data }, { on := 13, ground := Ground.data }], guard := none }) (v := ?_) rfl (by kernel_rfl) (by kernel_rfl) (by kernel_rfl) (fun _ _ _ h => h) (Or.inl ⟨by rfl, ?_⟩) (by assumption) ?_
  rotate_left
  · intro w' hSw; (try dsimp only at hSw); first | (go_simp; done) | (go_simp; with_reducible rfl)
  (try simp only [Act.put, List.setIfInBounds_toArray, List.set_cons_zero, List.set_cons_succ])
  refine wpAnyH_done (by kernel_rfl) ?_ _
  exact NoPanic.normal (HQ.out _ _ _ _ _ _ _ _ _ _ _ _ _ _  _  BB.out)

set_option maxRecDepth 100000 in
set_option maxHeartbeats 4000000 in
theorem regK13f {Q : Exit → Act → World → Prop} {v0 v1 v2 v3 v4 v5 v6 v7 v8 v9 v10 v11 v12 v13 v14 v15 v16 v18 v19 v20 v21 v22 v23 v24 v25 v26 v27 v28 v29 v30 v31 v32 v33 v34 v35 v36 v37 v38 v39 v40 v41 v42 v43 v44 v45 v46 v47 v48 v49 v50 v51 v52 v53 v54 v55 v56 v57 v58 v59 v60 v61 v62 v63 v64 v65 v66 v67 v68 v69 v70 v71 v72 v73 v74 v75 v76 v77 v78 v79 v80 v81 v82 v83 v84 v85 v86 v87 v88 v89 v90 v91 v92 v93 v94 v95 v96 v97 v98 v99 v100 v101 v102 v103 v104 v105 v106 v107 v108 v109 v110 v111 v112 v113 v114 v115 v116 v117 v118 v119 v120 v121 v122 v123 v124 v125 v126 v127 v128 v129 v130 v131 v132 v133 v134 v135 v136 v137 v138 v139 v140 v141 v142 v143 v144 v145 v146 v147 v148 v149 v150 v151 v152 v153 v154 v155 v156 v157 v158 v159 v160 v161 v162 v163 v164 v165 v166 v167 v168 v169 v170 v171 v172 v173 v174 v175 v176 v177 v178 v179 v180 v181 v182 v183 : Value} {w : World}  
    (hQ : ∀ (u139 u140 u141 u142 u143 u144 u145 u146 u147 u148 u149 u150 u151 u152 : Value)  (wx : World), Below w.heap.size w wx → Q .normal ⟨#[v0, v1, v2, v3, v4, v5, v6, v7, v8, v9, v10, v11, v12, v13, v14, v15, v16, .bool false, v18, v19, v20, v21, v22, v23, v24, v25, v26, v27, v28, v29, v30, v31, v32, v33, v34, v35, v36, v37, v38, v39, v40, v41, v42, v43, v44, v45, v46, v47, v48, v49, v50, v51, v52, v53, v54, v55, v56, v57, v58, v59, v60, v61, v62, v63, v64, v65, v66, v67, v68, v69, v70, v71, v72, v73, v74, v75, v76, v77, v78, v79, v80, v81, v82, v83, v84, v85, v86, v87, v88, v89, v90, v91, v92, v93, v94, v95, v96, v97, v98, v99, v100, v101, v102, v103, v104, v105, v106, v107, v108, v109, v110, v111, v112, v113, v114, v115, v116, v117, v118, v119, v120, v121, v122, v123, v124, v125, v126, v127, v128, v129, v130, v131, v132, v133, v134, v135, v136, v137, v138, u139, u140, u141, u142, u143, u144, u145, u146, u147, u148, u149, u150, u151, u152, .bool false, v154, v155, v156, v157, v158, v159, v160, v161, v162, v163, v164, v165, v166, v167, v168, v169, v170, v171, v172, v173, v174, v175, v176, v177, v178, v179, v180, v181, v182, v183], []⟩ wx) :
    (Code.region 13 #[{ dst := some 139, op := Op.move (Operand.tmp 17), type := 4, pos := "laws.go:652", after := #[], guard := none },
      { dst := some 140, op := Op.move (Operand.tmp 139), type := 4, pos := "laws.go:652", after := #[{ on := 0, ground := Ground.data }], guard := none },
      { dst := some 141, op := Op.move (Operand.tmp 16), type := 24, pos := "laws.go:652", after := #[{ on := 1, ground := Ground.guard }], guard := some (1, true) },
      { dst := some 142, op := Op.fieldAddr 37 (Operand.tmp 15) 0, type := 0, pos := "laws.go:652", after := #[{ on := 1, ground := Ground.guard }], guard := some (1, true) },
      { dst := some 143, op := Op.load 27 (Operand.tmp 142), type := 27, pos := "laws.go:652", after := #[{ on := 3, ground := Ground.data }, { on := 1, ground := Ground.guard }], guard := some (1, true) },
      { dst := some 144, op := Op.call { callee := Callee.value (Operand.func 20), args := #[Operand.tmp 141, Operand.tmp 143], argTypes := #[24, 27] }, type := 3, pos := "laws.go:652", after := #[{ on := 2, ground := Ground.data }, { on := 4, ground := Ground.data }, { on := 1, ground := Ground.chain }, { on := 1, ground := Ground.guard }], guard := some (1, true) },
      { dst := some 145, op := Op.fieldAddr 37 (Operand.tmp 15) 1, type := 0, pos := "laws.go:652", after := #[{ on := 1, ground := Ground.guard }], guard := some (1, true) },
      { dst := some 146, op := Op.load 3 (Operand.tmp 145), type := 3, pos := "laws.go:652", after := #[{ on := 6, ground := Ground.data }, { on := 1, ground := Ground.guard }], guard := some (1, true) },
      { dst := some 147, op := Op.binOp BinOp.neq 3 (Operand.tmp 144) (Operand.tmp 146) 3, type := 4, pos := "laws.go:652", after := #[{ on := 5, ground := Ground.data }, { on := 7, ground := Ground.data }, { on := 1, ground := Ground.guard }], guard := some (1, true) },
      { dst := some 148, op := Op.move (Operand.tmp 147), type := 4, pos := "laws.go:652", after := #[{ on := 8, ground := Ground.data }, { on := 5, ground := Ground.chain }, { on := 1, ground := Ground.guard }], guard := some (1, true) },
      { dst := some 149, op := Op.move (Operand.tmp 16), type := 24, pos := "laws.go:652", after := #[{ on := 9, ground := Ground.guard }], guard := some (9, false) },
      { dst := some 150, op := Op.call { callee := Callee.value (Operand.func 22), args := #[Operand.tmp 149], argTypes := #[24] }, type := 4, pos := "laws.go:652", after := #[{ on := 10, ground := Ground.data }, { on := 9, ground := Ground.chain }, { on := 9, ground := Ground.guard }], guard := some (9, false) },
      { dst := some 151, op := Op.unOp UnOp.not 4 (Operand.tmp 150), type := 4, pos := "laws.go:652", after := #[{ on := 11, ground := Ground.data }, { on := 9, ground := Ground.guard }], guard := some (9, false) },
      { dst := some 152, op := Op.pick (Operand.tmp 148) (Operand.const (Value.bool true)) (Operand.tmp 151), type := 4, pos := "laws.go:652", after := #[{ on := 9, ground := Ground.data }, { on := 12, ground := Ground.data }, { on := 1, ground := Ground.guard }], guard := some (1, true) },
      { dst := some 153, op := Op.pick (Operand.tmp 140) (Operand.tmp 152) (Operand.const (Value.bool false)), type := 4, pos := "laws.go:652", after := #[{ on := 1, ground := Ground.data }, { on := 13, ground := Ground.data }], guard := none }] true).wp Tryz.prog Q ⟨#[v0, v1, v2, v3, v4, v5, v6, v7, v8, v9, v10, v11, v12, v13, v14, v15, v16, .bool false, v18, v19, v20, v21, v22, v23, v24, v25, v26, v27, v28, v29, v30, v31, v32, v33, v34, v35, v36, v37, v38, v39, v40, v41, v42, v43, v44, v45, v46, v47, v48, v49, v50, v51, v52, v53, v54, v55, v56, v57, v58, v59, v60, v61, v62, v63, v64, v65, v66, v67, v68, v69, v70, v71, v72, v73, v74, v75, v76, v77, v78, v79, v80, v81, v82, v83, v84, v85, v86, v87, v88, v89, v90, v91, v92, v93, v94, v95, v96, v97, v98, v99, v100, v101, v102, v103, v104, v105, v106, v107, v108, v109, v110, v111, v112, v113, v114, v115, v116, v117, v118, v119, v120, v121, v122, v123, v124, v125, v126, v127, v128, v129, v130, v131, v132, v133, v134, v135, v136, v137, v138, v139, v140, v141, v142, v143, v144, v145, v146, v147, v148, v149, v150, v151, v152, v153, v154, v155, v156, v157, v158, v159, v160, v161, v162, v163, v164, v165, v166, v167, v168, v169, v170, v171, v172, v173, v174, v175, v176, v177, v178, v179, v180, v181, v182, v183], []⟩ w := by
  have HQ := Lib.hid hQ; clear hQ
  have hdr : Below w.heap.size w w.drew := (Below.refl _ _).drew
  have BB := Lib.hid hdr
  refine wp_region_noPanic ?_
  refine wp_region_held_drew (S := (fun w' => True)) (by kernel_rfl) ?_ (fun hHeld => ?_)
  · trivial
  clear hdr
  generalize w.drew = wd at *
  refine wpAnyH_take (i := 0) (oi := { dst := some 139, op := Op.move (Operand.tmp 17), type := 4, pos := "laws.go:652", after := #[], guard := none }) (v := ?_) rfl (by kernel_rfl) (by kernel_rfl) (by kernel_rfl) (fun _ _ _ h => h) (Or.inl ⟨by rfl, ?_⟩) (by assumption) ?_
  rotate_left
  · intro w' hSw; (try dsimp only at hSw); first | (go_simp; done) | (go_simp; with_reducible rfl)
  (try simp only [Act.put, List.setIfInBounds_toArray, List.set_cons_zero, List.set_cons_succ])
  refine wpAnyH_take (i := 1) (oi := { dst := some 140, op := Op.move (Operand.tmp 139), type := 4, pos := "laws.go:652", after := #[{ on := 0, ground := Ground.data }], guard := none }) (v := ?_) rfl (by kernel_rfl) (by kernel_rfl) (by kernel_rfl) (fun _ _ _ h => h) (Or.inl ⟨by rfl, ?_⟩) (by assumption) ?_
  rotate_left
  · intro w' hSw; (try dsimp only at hSw); first | (go_simp; done) | (go_simp; with_reducible rfl)
  (try simp only [Act.put, List.setIfInBounds_toArray, List.set_cons_zero, List.set_cons_succ])
  refine wpAnyH_take (i := 2) (oi := { dst := some 141, op := Op.move (Operand.tmp 16), type := 24, pos := "laws.go:652", after := #[{ on := 1, ground := Ground.guard }], guard := some (1, true) }) (v := undef) rfl (by kernel_rfl) (by kernel_rfl) (by kernel_rfl) (fun _ _ _ h => h) (Or.inr ⟨by rfl, rfl⟩) (by assumption) ?_
  (try simp only [Act.put, List.setIfInBounds_toArray, List.set_cons_zero, List.set_cons_succ])
  refine wpAnyH_take (i := 3) (oi := { dst := some 142, op := Op.fieldAddr 37 (Operand.tmp 15) 0, type := 0, pos := "laws.go:652", after := #[{ on := 1, ground := Ground.guard }], guard := some (1, true) }) (v := undef) rfl (by kernel_rfl) (by kernel_rfl) (by kernel_rfl) (fun _ _ _ h => h) (Or.inr ⟨by rfl, rfl⟩) (by assumption) ?_
  (try simp only [Act.put, List.setIfInBounds_toArray, List.set_cons_zero, List.set_cons_succ])
  refine wpAnyH_take (i := 4) (oi := { dst := some 143, op := Op.load 27 (Operand.tmp 142), type := 27, pos := "laws.go:652", after := #[{ on := 3, ground := Ground.data }, { on := 1, ground := Ground.guard }], guard := some (1, true) }) (v := undef) rfl (by kernel_rfl) (by kernel_rfl) (by kernel_rfl) (fun _ _ _ h => h) (Or.inr ⟨by rfl, rfl⟩) (by assumption) ?_
  (try simp only [Act.put, List.setIfInBounds_toArray, List.set_cons_zero, List.set_cons_succ])
  refine wpAnyH_take (i := 5) (oi := { dst := some 144, op := Op.call { callee := Callee.value (Operand.func 20), args := #[Operand.tmp 141, Operand.tmp 143], argTypes := #[24, 27] }, type := 3, pos := "laws.go:652", after := #[{ on := 2, ground := Ground.data }, { on := 4, ground := Ground.data }, { on := 1, ground := Ground.chain }, { on := 1, ground := Ground.guard }], guard := some (1, true) }) (v := undef) rfl (by kernel_rfl) (by kernel_rfl) (by kernel_rfl) (fun _ _ _ h => h) (Or.inr ⟨by rfl, rfl⟩) (by assumption) ?_
  (try simp only [Act.put, List.setIfInBounds_toArray, List.set_cons_zero, List.set_cons_succ])
  refine wpAnyH_take (i := 6) (oi := { dst := some 145, op := Op.fieldAddr 37 (Operand.tmp 15) 1, type := 0, pos := "laws.go:652", after := #[{ on := 1, ground := Ground.guard }], guard := some (1, true) }) (v := undef) rfl (by kernel_rfl) (by kernel_rfl) (by kernel_rfl) (fun _ _ _ h => h) (Or.inr ⟨by rfl, rfl⟩) (by assumption) ?_
  (try simp only [Act.put, List.setIfInBounds_toArray, List.set_cons_zero, List.set_cons_succ])
  refine wpAnyH_take (i := 7) (oi := { dst := some 146, op := Op.load 3 (Operand.tmp 145), type := 3, pos := "laws.go:652", after := #[{ on := 6, ground := Ground.data }, { on := 1, ground := Ground.guard }], guard := some (1, true) }) (v := undef) rfl (by kernel_rfl) (by kernel_rfl) (by kernel_rfl) (fun _ _ _ h => h) (Or.inr ⟨by rfl, rfl⟩) (by assumption) ?_
  (try simp only [Act.put, List.setIfInBounds_toArray, List.set_cons_zero, List.set_cons_succ])
  refine wpAnyH_take (i := 8) (oi := { dst := some 147, op := Op.binOp BinOp.neq 3 (Operand.tmp 144) (Operand.tmp 146) 3, type := 4, pos := "laws.go:652", after := #[{ on := 5, ground := Ground.data }, { on := 7, ground := Ground.data }, { on := 1, ground := Ground.guard }], guard := some (1, true) }) (v := undef) rfl (by kernel_rfl) (by kernel_rfl) (by kernel_rfl) (fun _ _ _ h => h) (Or.inr ⟨by rfl, rfl⟩) (by assumption) ?_
  (try simp only [Act.put, List.setIfInBounds_toArray, List.set_cons_zero, List.set_cons_succ])
  refine wpAnyH_take (i := 9) (oi := { dst := some 148, op := Op.move (Operand.tmp 147), type := 4, pos := "laws.go:652", after := #[{ on := 8, ground := Ground.data }, { on := 5, ground := Ground.chain }, { on := 1, ground := Ground.guard }], guard := some (1, true) }) (v := undef) rfl (by kernel_rfl) (by kernel_rfl) (by kernel_rfl) (fun _ _ _ h => h) (Or.inr ⟨by rfl, rfl⟩) (by assumption) ?_
  (try simp only [Act.put, List.setIfInBounds_toArray, List.set_cons_zero, List.set_cons_succ])
  refine wpAnyH_take (i := 10) (oi := { dst := some 149, op := Op.move (Operand.tmp 16), type := 24, pos := "laws.go:652", after := #[{ on := 9, ground := Ground.guard }], guard := some (9, false) }) (v := undef) rfl (by kernel_rfl) (by kernel_rfl) (by kernel_rfl) (fun _ _ _ h => h) (Or.inr ⟨by rfl, rfl⟩) (by assumption) ?_
  (try simp only [Act.put, List.setIfInBounds_toArray, List.set_cons_zero, List.set_cons_succ])
  refine wpAnyH_take (i := 11) (oi := { dst := some 150, op := Op.call { callee := Callee.value (Operand.func 22), args := #[Operand.tmp 149], argTypes := #[24] }, type := 4, pos := "laws.go:652", after := #[{ on := 10, ground := Ground.data }, { on := 9, ground := Ground.chain }, { on := 9, ground := Ground.guard }], guard := some (9, false) }) (v := undef) rfl (by kernel_rfl) (by kernel_rfl) (by kernel_rfl) (fun _ _ _ h => h) (Or.inr ⟨by rfl, rfl⟩) (by assumption) ?_
  (try simp only [Act.put, List.setIfInBounds_toArray, List.set_cons_zero, List.set_cons_succ])
  refine wpAnyH_take (i := 12) (oi := { dst := some 151, op := Op.unOp UnOp.not 4 (Operand.tmp 150), type := 4, pos := "laws.go:652", after := #[{ on := 11, ground := Ground.data }, { on := 9, ground := Ground.guard }], guard := some (9, false) }) (v := undef) rfl (by kernel_rfl) (by kernel_rfl) (by kernel_rfl) (fun _ _ _ h => h) (Or.inr ⟨by rfl, rfl⟩) (by assumption) ?_
  (try simp only [Act.put, List.setIfInBounds_toArray, List.set_cons_zero, List.set_cons_succ])
  refine wpAnyH_take (i := 13) (oi := { dst := some 152, op := Op.pick (Operand.tmp 148) (Operand.const (Value.bool true)) (Operand.tmp 151), type := 4, pos := "laws.go:652", after := #[{ on := 9, ground := Ground.data }, { on := 12, ground := Ground.data }, { on := 1, ground := Ground.guard }], guard := some (1, true) }) (v := undef) rfl (by kernel_rfl) (by kernel_rfl) (by kernel_rfl) (fun _ _ _ h => h) (Or.inr ⟨by rfl, rfl⟩) (by assumption) ?_
  (try simp only [Act.put, List.setIfInBounds_toArray, List.set_cons_zero, List.set_cons_succ])
  refine wpAnyH_take (i := 14) (oi := { dst := some 153, op := Op.pick (Operand.tmp 140) (Operand.tmp 152) (Operand.const (Value.bool false)), type := 4, pos := "laws.go:652", after := #[{ on := 1, ground := Ground.data }, { on := 13, ground := Ground.data }], guard := none }) (v := ?_) rfl (by kernel_rfl) (by kernel_rfl) (by kernel_rfl) (fun _ _ _ h => h) (Or.inl ⟨by rfl, ?_⟩) (by assumption) ?_
  rotate_left
  · intro w' hSw; (try dsimp only at hSw); first | (go_simp; done) | (go_simp; with_reducible rfl)
  (try simp only [Act.put, List.setIfInBounds_toArray, List.set_cons_zero, List.set_cons_succ])
  refine wpAnyH_done (by kernel_rfl) ?_ _
  exact NoPanic.normal (HQ.out _ _ _ _ _ _ _ _ _ _ _ _ _ _  _  BB.out)

end Go.Proofs.YtnblopilgfdjkaaGreat.Row.Ring
/- Contracts of the reference model's draws of chapter 9 that its law uses. What was in memory stays as it was. -/
namespace Go.Proofs.YtnblopilgfdjkaaGreat.Ret
theorem results_tcctt {P : Program} {fn : Func} {p q a b c : Tmp} {t1 t2 : TypeId} (h : fn.results = #[.tmp a, .cell p t1, .cell q t2, .tmp b, .tmp c]) (tmps : Array Value) (w : World) (g1 g2 : Nat) (c1 c2 : List Value) (hp : tmps.getD p undef = .pointer (some ⟨g1, 0, none⟩)) (hq : tmps.getD q undef = .pointer (some ⟨g2, 0, none⟩))
    (ha : AggOf P t1 c1.length) (hc : ∀ j v, c1[j]? = some v → w.cell? ⟨g1, j, none⟩ = some v) (hb : AggOf P t2 c2.length) (hd : ∀ j v, c2[j]? = some v → w.cell? ⟨g2, j, none⟩ = some v) : (results fn tmps).run P w = .ok (.tuple #[tmps.getD a undef, .agg c1.toArray, .agg c2.toArray, tmps.getD b undef, tmps.getD c undef]) w := by
  have hp' : tmps[p]?.getD undef = .pointer (some ⟨g1, 0, none⟩) := by simpa using hp
  have hq' : tmps[q]?.getD undef = .pointer (some ⟨g2, 0, none⟩) := by simpa using hq
  have hl := run_loadVar_cells (P := P) w g1 t1 c1 hc ha
  have hm := run_loadVar_cells (P := P) w g2 t2 c2 hd hb
  simp [results, h, hp', hq', asAddr, hl, hm, Result.andThen]
end Go.Proofs.YtnblopilgfdjkaaGreat.Ret
namespace Go.Proofs.YtnblopilgfdjkaaGreat.Draw
open Go.ChangeShapes Go.WideShapes Go.ChangeAt Go.RowKit Go.Instr
open Go.Proofs.YtnblopilgfdjkaaGreat.Row (bulk bulk_append bulk_one bulk_nil bulk_cons OwnK HB Dt dc aggD bulkD advD WfD kD kB kN kD_of kB_of kN_of)
open Go.Proofs.YtnblopilgfdjkaaGreat.Row.Ring (Ent encE szE kindE strip strip_append strip_length TabH TabO TabOwn TabHolds addK smT kK.At k1.At)
open Go.Proofs.YtnblopilgfdjkaaGreat.Ret (NC Blk Box)
set_option linter.unusedVariables false
set_option maxRecDepth 100000

theorem aggK : Ret.AggOf Tryz.prog 37 2 := ⟨by kernel_rfl, by kernel_rfl⟩
theorem ownk_setT {e t : TypeId} {B g i : Nat} {w : World} {v u : Value} {L : List Ent} {cs : Array Value} (h : OwnK e encE 2 B w v L) (hb : Blk w g cs t) (hne : e ≠ t) : OwnK e encE 2 B (w.setCell ⟨g, i, none⟩ u) v L :=
  h.grown (Ret.grownBy_set w ⟨g, i, none⟩ u) (by
    rcases h.2 with ⟨rfl, _⟩ | ⟨g2, cap, cur, rfl, _, hh, _⟩
    · exact Or.inl rfl
    · refine Or.inr fun e1 => ?_
      have e2 : g2 = g := by simpa [Value.ownBlock] using e1
      rw [e2, show w.heap[g]? = some (.cells cs t) from hb] at hh
      cases hh
      exact hne rfl)
theorem RO.setT {B g i : Nat} {w : World} {v u : Value} {L : List Ent} {cs : Array Value} {t : TypeId} (h : RO B w v L) (hb : Blk w g cs t) (h1 : 37 ≠ t) (h2 : t ≠ 9) : RO B (w.setCell ⟨g, i, none⟩ u) v L := ⟨ownk_setT h.1 hb h1, fun x hx => (h.2 x hx).setT hb h2⟩
theorem RO.at {B : Nat} {w : World} {v : Value} {L : List Ent} (h : RO B w v L) : kK.At w v (strip L) := ⟨L, rfl, h.tab⟩
theorem hb_at {B : Nat} {w : World} {v : Value} {m : List ByteArray} (h : HB B w v m) : kN.At w (.agg #[v]) m := kN_of h.holds
/-- A list of keys and a name; a list and a packet; a list and a key. -/
def QKN (w : World) (e : Ending) (w' : World) : Prop := ∃ T m U V, e = .returned (.tuple #[U, V]) ∧ kK.At w' U T ∧ T.length ≤ 6 ∧ smS T ∧ kN.At w' V m ∧ bulk m ≤ 1000 ∧ Below w.heap.size w w'
def QKD (w : World) (e : Ending) (w' : World) : Prop := ∃ T y U V, e = .returned (.tuple #[U, V]) ∧ kK.At w' U T ∧ T.length ≤ 6 ∧ smS T ∧ kD.At w' V y ∧ bulkD y ≤ 3000 ∧ WfD y ∧ Below w.heap.size w w'
def QPair (w : World) (e : Ending) (w' : World) : Prop := ∃ (L : List Ent) (la : List ByteArray) (lb : List Int) (lc : List ByteArray) (f s : Int) (xl xa xb xc : Option Addr) (nl cl na ca nb cb nc cc : Nat), e = .returned (.tuple #[.slice xl nl cl, .agg (dc (.slice xa na ca) (.slice xb nb cb) (.slice xc nc cc) f s)]) ∧ RO w.heap.size w' (.slice xl nl cl) L ∧ L.length ≤ 6 ∧ smS (strip L) ∧ DO3 w.heap.size w' (.slice xa na ca) (.slice xb nb cb) (.slice xc nc cc) (la, lb, lc, f, s) ∧ bulkD (la, lb, lc, f, s) ≤ 3000 ∧ WfD (la, lb, lc, f, s) ∧ Below w.heap.size w w'
def QKk (w : World) (e : Ending) (w' : World) : Prop := ∃ T x U V, e = .returned (.tuple #[U, V]) ∧ kK.At w' U T ∧ T.length ≤ 6 ∧ smS T ∧ k1.At w' V x ∧ bulk x.1 ≤ 1000 ∧ (Lit.int .i64 x.2).wf = true ∧ Below w.heap.size w w'
def QKS (w : World) (e : Ending) (w' : World) : Prop := ∃ T m n b a U V X Y, e = .returned (.tuple #[U, V, X, Y, .int .i64 a]) ∧ kK.At w' U T ∧ T.length ≤ 6 ∧ smS T ∧ kN.At w' V m ∧ bulk m ≤ 1000 ∧ kN.At w' X n ∧ bulk n ≤ 1000 ∧ kB.At w' Y b ∧ Sl.Byt b ∧ b.length ≤ 4 ∧ Below w.heap.size w w'
theorem cell_set1 {w : World} {p g i j : Nat} {u y : Value} (h : w.cell? ⟨p, i, none⟩ = some u) (hne : p ≠ g) : (w.setCell ⟨g, j, none⟩ y).cell? ⟨p, i, none⟩ = some u := (Ret.grownBy_set w ⟨g, j, none⟩ y).cell h (by simpa using hne)


set_option maxHeartbeats 8000000 in
theorem dDrawSecretOf (w : World) (v : Value) (l : List UInt8) (hb : Frame.Bytes w v l) :
    Calls Tryz.prog 12 #[v] w (QKN w) := by
  have hal : Below w.heap.size w (w.alloc (.cells #[.slice none 0 0] 27)) := (Below.refl _ _).alloc (Nat.le_refl _) _
  have HAL := Lib.hid hal
  have HR0 := Lib.hid (Blk.new w #[.slice none 0 0] 27)
  have HN := Lib.hid (new (w.alloc (.cells #[.slice none 0 0] 27)) v l (hb.on hal)); clear hb hal
  go_enter Tryz.func12, Tryz.ntmps12
  go_wp2_with fail
  refine HN.out.mono ?_
  rintro e w1 ⟨rfl, hc⟩
  have hpz := hc.lt
  simp only [World.size_alloc] at hc hpz
  have HR1 := Lib.hid (HR0.out.on hc.below)
  have HD := Lib.hid (l9Any _ _ v l w1 hc); clear hc
  go_wp2_with fail
  refine HD.out.mono ?_
  rintro e w2 ⟨U, rfl, ⟨L, ho, h2L, hL6, hs⟩, hc2, hk2⟩
  obtain ⟨xl, nl, cl, rfl, -, -, ho⟩ := ho.shapeN
  have hkz := hk2.size
  have HL2 := Lib.hid (ho.mono (show w.heap.size + 1 + 1 ≤ w1.heap.size by omega))
  have HR2 := Lib.hid (blk_keep HR1.out hk2 (by omega))
  have HS := Lib.hid hs
  have hp2 : w.heap.size + 1 < w.heap.size + 1 + 1 := by omega
  have hr2 : w.heap.size ≠ w.heap.size + 1 := by omega
  have HT := Lib.hid (strLit2 _ _ v l w2 hc2 [{ data := #[47, 107, 101, 121, 47, 97] }, { data := #[47, 97, 47, 107, 101, 121] }, { data := #[47, 122, 122] }] _ rfl 3 rfl (by decide) (by decide) 20 (by decide))
  clear ho hc2 hk2 HD hs hkz HR1
  go_wp2_with fail
  refine HT.out.mono ?_
  rintro e w3 ⟨y, rfl, ⟨t, rfl, ht⟩, hc3, hk3⟩
  have HL3 := Lib.hid (HL2.out.keep hk3 hp2); have HR3 := Lib.hid (blk_keep HR2.out hk3 hr2)
  have HF := Lib.hid (Row.l4OfB t w3 (by omega)); have HC3 := Lib.hid hc3
  clear hc3 hk3 HT HL2 HR2
  go_wp2_with fail
  refine HF.out.mono ?_
  rintro e w4 ⟨u4, rfl, hu4, hb4⟩
  obtain ⟨x4, n4, c4, rfl, -, hu4⟩ := hu4.shapeN
  have HL4 := Lib.hid (HL3.out.on hb4); have HR4 := Lib.hid (HR3.out.on hb4); have HU4 := Lib.hid hu4
  have HB4 := Lib.hid (HAL.out.trans ((HC3.out.on hb4).below.mono HAL.out.size))
  clear hu4 hb4 HF
  have r0 : w4.cell? ⟨w.heap.size, 0, none⟩ = some (.slice none 0 0) := HR4.out.cell 0
  have t0 := HR4.out.frozen 0
  have Z1 := Lib.hid (show Blk (w4.setCell ⟨w.heap.size, 0, none⟩ (.slice x4 n4 c4)) w.heap.size #[.slice x4 n4 c4] 27 from HR4.out.set 0 _)
  have Z2 := Lib.hid ((HL4.out.setT (i := 0) (u := .slice x4 n4 c4) HR4.out (by decide) (by decide)).at)
  have Z3 := Lib.hid (hb_at (HU4.out.setT (i := 0) (u := .slice x4 n4 c4) HR4.out (by decide)))
  have Z4 := Lib.hid (HB4.out.setCell (p := ⟨w.heap.size, 0, none⟩) (Nat.le_refl _) (.slice x4 n4 c4))
  go_wp2_with fail
  refine bodyPost_ret (Ret.results_tcD rfl _ _ w.heap.size [_] rfl Row.aggN Z1.out.cells) rfl ?_
  exact ⟨_, _, _, _, rfl, Z2.out, by rw [strip_length]; exact hL6, HS.out, Z3.out, bulk_pN t, Z4.out⟩

set_option maxHeartbeats 8000000 in
theorem dDrawAddKey (w : World) (v : Value) (l : List UInt8) (hb : Frame.Bytes w v l) :
    Calls Tryz.prog 9 #[v] w (QKk w) := by
  have hal : Below w.heap.size w (w.alloc (.cells #[.slice none 0 0, .int .i64 0] 37)) := (Below.refl _ _).alloc (Nat.le_refl _) _
  have HAL := Lib.hid hal
  have HR0 := Lib.hid (Blk.new w #[.slice none 0 0, .int .i64 0] 37)
  have HN := Lib.hid (new (w.alloc (.cells #[.slice none 0 0, .int .i64 0] 37)) v l (hb.on hal)); clear hb hal
  go_enter Tryz.func9, Tryz.ntmps9
  go_wp2_with fail
  refine HN.out.mono ?_
  rintro e w1 ⟨rfl, hc⟩
  have hpz := hc.lt
  simp only [World.size_alloc] at hc hpz
  have HR1 := Lib.hid (HR0.out.on hc.below)
  have HD := Lib.hid (l9Any _ _ v l w1 hc); clear hc
  go_wp2_with fail
  refine HD.out.mono ?_
  rintro e w2 ⟨U, rfl, ⟨L, ho, h2L, hL6, hs⟩, hc2, hk2⟩
  obtain ⟨xl, nl, cl, rfl, -, -, ho⟩ := ho.shapeN
  have hkz := hk2.size
  have HL2 := Lib.hid (ho.mono (show w.heap.size + 1 + 1 ≤ w1.heap.size by omega))
  have HR2 := Lib.hid (blk_keep HR1.out hk2 (by omega))
  have HS := Lib.hid hs
  have hp2 : w.heap.size + 1 < w.heap.size + 1 + 1 := by omega
  have hr2 : w.heap.size ≠ w.heap.size + 1 := by omega
  have HA := Lib.hid (l4Any _ _ v l w2 hc2)
  clear ho hc2 hk2 HD hs HR1
  go_wp2_with fail
  refine HA.out.mono ?_
  rintro e w3 ⟨y, rfl, ⟨u, m, rfl, hou, hm⟩, hc3, hk3⟩
  obtain ⟨x4, n4, c4, rfl, -, -, hou⟩ := hou.shapeN
  have HL3 := Lib.hid (HL2.out.keep hk3 hp2); have HR3 := Lib.hid (blk_keep HR2.out hk3 hr2)
  have HU3 := Lib.hid ((HB.of hou).mono (show w.heap.size + 1 + 1 ≤ w2.heap.size by omega))
  have HI := Lib.hid (intLit2 _ _ v l w3 hc3 [100, 105, 0] _ rfl 3 rfl (by decide) (by decide) 0 105 (by decide))
  clear hou hc3 hk3 HA HL2 HR2 hkz
  go_wp2_with fail
  refine HI.out.mono ?_
  rintro e w4 ⟨y, rfl, ⟨a, rfl, ha0, ha1⟩, hc4, hk4⟩
  have HL4 := Lib.hid (HL3.out.keep hk4 hp2); have HR4 := Lib.hid (blk_keep HR3.out hk4 hr2); have HU4 := Lib.hid (hb_keep HU3.out hk4 hp2)
  have HB4 := Lib.hid (HAL.out.trans (hc4.below.mono HAL.out.size))
  have HWA := Lib.hid (wf_of (n := a) (by omega) (by omega))
  clear hc4 hk4 HI
  have r0 : w4.cell? ⟨w.heap.size, 0, none⟩ = some (.slice none 0 0) := HR4.out.cell 0
  have r1 : w4.cell? ⟨w.heap.size, 1, none⟩ = some (.int .i64 0) := HR4.out.cell 1
  have t0 := HR4.out.frozen 0; have t1 := HR4.out.frozen 1
  have Z1 := Lib.hid (show Blk ((w4.setCell ⟨w.heap.size, 0, none⟩ (.slice x4 n4 c4)).setCell ⟨w.heap.size, 1, none⟩ (.int .i64 a)) w.heap.size #[.slice x4 n4 c4, .int .i64 a] 37 from (HR4.out.set 0 _).set 1 _)
  have HR5 := Lib.hid (HR4.out.set 0 (.slice x4 n4 c4))
  have hlt5 := HL4.out.1.lt
  have Z2 := Lib.hid (show kK.At ((w4.setCell ⟨w.heap.size, 0, none⟩ (.slice x4 n4 c4)).setCell ⟨w.heap.size, 1, none⟩ (.int .i64 a)) (.slice xl nl cl) (strip L) from by
    have g1 : ∀ {W : World} (i : Nat) (y : Value), RO (w.heap.size + 1 + 1) W (.slice xl nl cl) L → RO (w.heap.size + 1 + 1) (W.setCell ⟨w.heap.size, i, none⟩ y) (.slice xl nl cl) L := fun {W} i y h => ⟨h.1.grown (Ret.grownBy_set W ⟨w.heap.size, i, none⟩ y) (by
      cases hv : (Value.slice xl nl cl).ownBlock with
      | none => exact Or.inl rfl
      | some q => exact Or.inr fun e => by have h1 := (h.1.lt q hv).1; have h2 := Option.some.inj e; dsimp only at h2; omega), fun x hx => (h.2 x hx).same fun q hq _ => Go.RowKit.Below.heap_setCell W ⟨w.heap.size, i, none⟩ y q (by dsimp only; omega)⟩
    exact (g1 1 _ (g1 0 _ HL4.out)).at)
  have Z3 := Lib.hid (show k1.At ((w4.setCell ⟨w.heap.size, 0, none⟩ (.slice x4 n4 c4)).setCell ⟨w.heap.size, 1, none⟩ (.int .i64 a)) (.agg #[.slice x4 n4 c4, .int .i64 a]) (m, a) from ⟨_, rfl, ((HU4.out.setT (i := 0) (u := .slice x4 n4 c4) HR4.out (by decide)).setT (i := 1) (u := .int .i64 a) HR5.out (by decide)).holds⟩)
  have Z4 := Lib.hid ((HB4.out.setCell (p := ⟨w.heap.size, 0, none⟩) (Nat.le_refl _) (.slice x4 n4 c4)).setCell (p := ⟨w.heap.size, 1, none⟩) (Nat.le_refl _) (.int .i64 a))
  clear hlt5
  go_wp2_with fail
  refine bodyPost_ret (Ret.results_tcD rfl _ _ w.heap.size [_, _] rfl aggK Z1.out.cells) rfl ?_
  exact ⟨_, _, _, _, rfl, Z2.out, by rw [strip_length]; exact hL6, HS.out, Z3.out, hm, HWA.out, Z4.out⟩
end Go.Proofs.YtnblopilgfdjkaaGreat.Draw
