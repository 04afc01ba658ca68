/- Contracts and mathematics, joined: RegT29, RegT31. No conditions but those that each states. -/
import Derived.WalkKit
import Derived.Deep.RegionHeld3
import Derived.Test.YtbooamnlocobfaaGreatB11
/- Two small regions of FnThings: an index is drawn, a byte is turned. No conditions. -/
namespace Go.Proofs.YtbooamnlocobfaaGreat.Row
open Go.ChangeShapes Go.WideShapes Go.ChangeAt Go.RowKit Go.Instr
set_option linter.unusedVariables false
set_option maxRecDepth 100000

theorem byteTurn (y r : Int) (y0 : 0 ≤ y) (y1 : y ≤ 255) (r0 : 0 ≤ r) : (0 ≤ IntKind.u8.wrap (IntKind.u8.wrap (y + 1) + IntKind.u8.wrap (r % 255)) ∧ IntKind.u8.wrap (IntKind.u8.wrap (y + 1) + IntKind.u8.wrap (r % 255)) ≤ 255) ∧ IntKind.u8.wrap (IntKind.u8.wrap (y + 1) + IntKind.u8.wrap (r % 255)) ≠ y := by
  simp only [IntKind.wrap_u8]
  omega
set_option maxRecDepth 100000 in
set_option maxHeartbeats 4000000 in
theorem regT29 {Q : Exit → Act → World → Prop} {v1 v2 v3 v4 v5 v6 v7 v8 v9 v10 v11 v12 v13 v14 v15 v16 v17 v18 v19 v20 v21 v22 v24 v25 v26 v27 v28 v29 v30 v31 v32 v33 v34 v35 v36 v37 v38 v39 v40 v41 v42 v43 v44 v45 v46 v47 v48 v49 v50 v51 v52 v53 v54 v55 v56 v57 v58 v59 v60 v61 v62 v63 v64 v65 v66 v67 v68 v69 v70 v71 v72 v73 v74 v75 v76 v77 v78 v79 v80 v81 v82 v83 v84 v85 v86 v87 v88 v89 v90 v91 v92 v93 v94 v95 v96 v97 v98 v99 v100 v101 v102 v103 v104 v105 v106 v107 v108 v109 v110 v111 v112 v113 v114 v115 v116 v117 v118 v119 v120 v121 v122 v123 v124 v125 v126 v127 v128 v129 v130 v131 v132 v133 v134 v135 v136 v137 v138 v139 v140 v141 v142 v143 v144 v145 v146 v147 v148 v149 v150 v151 v152 v153 v154 v155 v156 v157 v158 v159 v160 v161 v162 v163 v164 v165 v166 v167 v168 v169 v170 v171 v172 v173 v174 v175 v176 v177 v178 v179 v180 v181 v182 v183 v184 v185 v186 v187 v188 v189 v190 v191 v192 v193 v194 v195 v196 v197 v198 v199 v200 v201 v202 v203 v204 v205 v206 v207 v208 v209 v210 v211 v212 v213 v214 v215 v216 v217 v218 v219 v220 v221 v222 v223 v224 v225 v226 v227 v228 v229 v230 v231 v232 v233 v234 v235 v236 v237 v238 : Value} {w : World} {x : Option Addr} {n0 cap : Nat} {l0 : List UInt8} (H_q : Hid (Frame.Bytes w (.slice x n0 cap) l0)) (HN0 : Hid (n0 = l0.length)) {bx : Nat} {x_xb : Option Addr} {n_xb c_xb : Nat} (hpos : 0 < n_xb) (K1_x : Hid (w.cell? ⟨bx, 1, none⟩ = some (.slice x_xb n_xb c_xb)))
    (hQ : ∀ (u193 u194 u195 u196 u197 u198 : Value) (ii : Nat) (wx : World), ii < n_xb → Below w.heap.size w wx → Q .normal ⟨#[.slice x n0 cap, v1, v2, v3, v4, v5, v6, v7, v8, v9, v10, v11, v12, v13, v14, v15, v16, v17, v18, v19, v20, v21, v22, .pointer (some ⟨bx, 0, none⟩), .int .i64 (ii : Nat), v25, v26, v27, v28, v29, v30, v31, v32, v33, v34, v35, v36, v37, v38, v39, v40, v41, v42, v43, v44, v45, v46, v47, v48, v49, v50, v51, v52, v53, v54, v55, v56, v57, v58, v59, v60, v61, v62, v63, v64, v65, v66, v67, v68, v69, v70, v71, v72, v73, v74, v75, v76, v77, v78, v79, v80, v81, v82, v83, v84, v85, v86, v87, v88, v89, v90, v91, v92, v93, v94, v95, v96, v97, v98, v99, v100, v101, v102, v103, v104, v105, v106, v107, v108, v109, v110, v111, v112, v113, v114, v115, v116, v117, v118, v119, v120, v121, v122, v123, v124, v125, v126, v127, v128, v129, v130, v131, v132, v133, v134, v135, v136, v137, v138, v139, v140, v141, v142, v143, v144, v145, v146, v147, v148, v149, v150, v151, v152, v153, v154, v155, v156, v157, v158, v159, v160, v161, v162, v163, v164, v165, v166, v167, v168, v169, v170, v171, v172, v173, v174, v175, v176, v177, v178, v179, v180, v181, v182, v183, v184, v185, v186, v187, v188, v189, v190, v191, v192, u193, u194, u195, u196, u197, u198, v199, v200, v201, v202, v203, v204, v205, v206, v207, v208, v209, v210, v211, v212, v213, v214, v215, v216, v217, v218, v219, v220, v221, v222, v223, v224, v225, v226, v227, v228, v229, v230, v231, v232, v233, v234, v235, v236, v237, v238], []⟩ wx) :
    (Code.region 29 #[{ dst := some 193, op := Op.move (Operand.tmp 0), type := 22, pos := "laws.go:630", after := #[], guard := none },
      { dst := some 194, op := Op.call { callee := Callee.value (Operand.func 30), args := #[Operand.tmp 193, Operand.const (Value.int IntKind.i64 2)], argTypes := #[22, 3] }, type := 3, pos := "laws.go:630", after := #[{ on := 0, ground := Ground.data }], guard := none },
      { dst := some 195, op := Op.fieldAddr 28 (Operand.tmp 23) 1, type := 0, pos := "laws.go:630", after := #[], guard := none },
      { dst := some 196, op := Op.load 22 (Operand.tmp 195), type := 22, pos := "laws.go:630", after := #[{ on := 2, ground := Ground.data }], guard := none },
      { dst := some 197, op := Op.call { callee := Callee.builtin Builtin.len, args := #[Operand.tmp 196], argTypes := #[22] }, type := 3, pos := "laws.go:630", after := #[{ on := 3, ground := Ground.data }], guard := none },
      { dst := some 198, op := Op.binOp BinOp.rem 3 (Operand.tmp 194) (Operand.tmp 197) 3, type := 3, pos := "laws.go:630", after := #[{ on := 1, ground := Ground.data }, { on := 4, ground := Ground.data }], guard := none },
      { dst := some 24, op := Op.assign (Operand.tmp 198), type := 3, pos := "laws.go:630", after := #[{ on := 5, ground := Ground.data }, { on := 1, ground := Ground.chain }, { on := 0, ground := Ground.phase }, { on := 1, ground := Ground.phase }, { on := 2, ground := Ground.phase }, { on := 3, ground := Ground.phase }, { on := 4, ground := Ground.phase }, { on := 5, ground := Ground.phase }], guard := none }] true).wp Tryz.prog Q ⟨#[.slice x n0 cap, v1, v2, v3, v4, v5, v6, v7, v8, v9, v10, v11, v12, v13, v14, v15, v16, v17, v18, v19, v20, v21, v22, .pointer (some ⟨bx, 0, none⟩), v24, v25, v26, v27, v28, v29, v30, v31, v32, v33, v34, v35, v36, v37, v38, v39, v40, v41, v42, v43, v44, v45, v46, v47, v48, v49, v50, v51, v52, v53, v54, v55, v56, v57, v58, v59, v60, v61, v62, v63, v64, v65, v66, v67, v68, v69, v70, v71, v72, v73, v74, v75, v76, v77, v78, v79, v80, v81, v82, v83, v84, v85, v86, v87, v88, v89, v90, v91, v92, v93, v94, v95, v96, v97, v98, v99, v100, v101, v102, v103, v104, v105, v106, v107, v108, v109, v110, v111, v112, v113, v114, v115, v116, v117, v118, v119, v120, v121, v122, v123, v124, v125, v126, v127, v128, v129, v130, v131, v132, v133, v134, v135, v136, v137, v138, v139, v140, v141, v142, v143, v144, v145, v146, v147, v148, v149, v150, v151, v152, v153, v154, v155, v156, v157, v158, v159, v160, v161, v162, v163, v164, v165, v166, v167, v168, v169, v170, v171, v172, v173, v174, v175, v176, v177, v178, v179, v180, v181, v182, v183, v184, v185, v186, v187, v188, v189, v190, v191, v192, v193, v194, v195, v196, v197, v198, v199, v200, v201, v202, v203, v204, v205, v206, v207, v208, v209, v210, v211, v212, v213, v214, v215, v216, v217, v218, v219, v220, v221, v222, v223, v224, v225, v226, v227, v228, v229, v230, v231, v232, v233, v234, v235, v236, v237, v238], []⟩ w := by
  have HQ := Lib.hid hQ; clear hQ
  have hdr : Below w.heap.size w w.drew := (Below.refl _ _).drew
  have hnz : ¬ n_xb = 0 := by omega
  have BB := Lib.hid hdr
  refine wp_region_noPanic ?_
  refine wp_region_held_drew (S := (fun w' => w'.cell? ⟨bx, 1, none⟩ = some (.slice x_xb n_xb c_xb))) (by kernel_rfl) ?_ (fun hHeld => ?_)
  · exact kc K1_x.out BB.out
  clear hdr
  generalize w.drew = wd at *
  refine wpAnyH_take (i := 0) (oi := { dst := some 193, op := Op.move (Operand.tmp 0), type := 22, pos := "laws.go:630", after := #[], guard := none }) (v := ?_) rfl (by kernel_rfl) (by kernel_rfl) (by kernel_rfl) (fun _ _ _ h => h) (Or.inl ⟨by rfl, ?_⟩) (by assumption) ?_
  rotate_left
  · intro w' hSw; (try dsimp only at hSw); first | (go_simp; done) | (go_simp; with_reducible rfl)
  (try simp only [Act.put, List.setIfInBounds_toArray, List.set_cons_zero, List.set_cons_succ])
  refine wpAnyH_take (i := 2) (oi := { dst := some 195, op := Op.fieldAddr 28 (Operand.tmp 23) 1, type := 0, pos := "laws.go:630", after := #[], guard := none }) (v := ?_) rfl (by kernel_rfl) (by kernel_rfl) (by kernel_rfl) (fun _ _ _ h => h) (Or.inl ⟨by rfl, ?_⟩) (by assumption) ?_
  rotate_left
  · intro w' hSw; (try dsimp only at hSw); first | (go_simp; done) | (go_simp; with_reducible rfl)
  (try simp only [Act.put, List.setIfInBounds_toArray, List.set_cons_zero, List.set_cons_succ])
  refine wpAnyH_take (i := 3) (oi := { dst := some 196, op := Op.load 22 (Operand.tmp 195), type := 22, pos := "laws.go:630", after := #[{ on := 2, ground := Ground.data }], guard := none }) (v := ?_) rfl (by kernel_rfl) (by kernel_rfl) (by kernel_rfl) (fun _ _ _ h => h) (Or.inl ⟨by rfl, ?_⟩) (by assumption) ?_
  rotate_left
  · intro w' hSw; (try dsimp only at hSw); first | (go_simp; done) | (go_simp; with_reducible rfl)
  (try simp only [Act.put, List.setIfInBounds_toArray, List.set_cons_zero, List.set_cons_succ])
  refine wpAnyH_take (i := 4) (oi := { dst := some 197, op := Op.call { callee := Callee.builtin Builtin.len, args := #[Operand.tmp 196], argTypes := #[22] }, type := 3, pos := "laws.go:630", after := #[{ on := 3, ground := Ground.data }], guard := none }) (v := ?_) rfl (by kernel_rfl) (by kernel_rfl) (by kernel_rfl) (fun _ _ _ h => h) (Or.inl ⟨by rfl, ?_⟩) (by assumption) ?_
  rotate_left
  · intro w' hSw; (try dsimp only at hSw); first | (go_simp; done) | (go_simp; with_reducible rfl)
  (try simp only [Act.put, List.setIfInBounds_toArray, List.set_cons_zero, List.set_cons_succ])
  refine wpAnyH_ready (rs := [1]) (by kernel_rfl) (by simp) ?_
  refine AllReadyH.cons (o := { dst := some 194, op := Op.call { callee := Callee.value (Operand.func 30), args := #[Operand.tmp 193, Operand.const (Value.int IntKind.i64 2)], argTypes := #[22, 3] }, type := 3, pos := "laws.go:630", after := #[{ on := 0, ground := Ground.data }], guard := none }) rfl (fun K hK => ?_) AllReadyH.nil
  go_simp
  refine (Draw.lawAt x n0 cap 2 l0 _ (H_q.out.on BB.out) HN0.out (by decide)).mono ?_
  rintro e wn1 ⟨⟨r, rfl, r0, r1⟩, hww⟩
  have hb : Below wd.heap.size wd wn1 := by subst hww; exact Below.refl _ _
  clear hww
  obtain ⟨rr, rfl⟩ := Int.eq_ofNat_of_zero_le r0
  obtain ⟨ii, hi⟩ : ∃ i, i = rr % n_xb := ⟨_, rfl⟩
  have hin : ii < n_xb := by rw [hi]; exact Nat.mod_lt _ hpos
  have hmod : (rr : Int) % (n_xb : Int) = (ii : Int) := by rw [hi]; omega
  have htm : ((rr : Nat) : Int).tmod ((n_xb : Nat) : Int) = (ii : Int) := by rw [Int.tmod_eq_emod_of_nonneg (by omega)]; exact hmod
  clear hi
  replace BB := Lib.hid (BB.out.trans (hb.mono BB.out.size))
  clear hb
  (try go_wp2_with fail)
  clear hHeld
  refine hK.out _ _ ?_ (fun hHeld => ?_)
  · (try dsimp only); exact kc K1_x.out BB.out
  clear hK K
  (try simp only [Act.put, List.setIfInBounds_toArray, List.set_cons_zero, List.set_cons_succ])
  refine wpAnyH_take (i := 5) (oi := { dst := some 198, op := Op.binOp BinOp.rem 3 (Operand.tmp 194) (Operand.tmp 197) 3, type := 3, pos := "laws.go:630", after := #[{ on := 1, ground := Ground.data }, { on := 4, ground := Ground.data }], guard := none }) (v := ?_) rfl (by kernel_rfl) (by kernel_rfl) (by kernel_rfl) (fun _ _ _ h => h) (Or.inl ⟨by rfl, ?_⟩) (by assumption) ?_
  rotate_left
  · intro w' hSw; (try dsimp only at hSw); first | (go_simp; done) | (go_simp; with_reducible rfl)
  (try simp only [Act.put, List.setIfInBounds_toArray, List.set_cons_zero, List.set_cons_succ])
  refine wpAnyH_take (i := 6) (oi := { dst := some 24, op := Op.assign (Operand.tmp 198), type := 3, pos := "laws.go:630", after := #[{ on := 5, ground := Ground.data }, { on := 1, ground := Ground.chain }, { on := 0, ground := Ground.phase }, { on := 1, ground := Ground.phase }, { on := 2, ground := Ground.phase }, { on := 3, ground := Ground.phase }, { on := 4, ground := Ground.phase }, { on := 5, ground := Ground.phase }], guard := none }) (v := ?_) rfl (by kernel_rfl) (by kernel_rfl) (by kernel_rfl) (fun _ _ _ h => h) (Or.inl ⟨by rfl, ?_⟩) (by assumption) ?_
  rotate_left
  · intro w' hSw; (try dsimp only at hSw); first | (go_simp; done) | (go_simp; with_reducible rfl)
  (try simp only [Act.put, List.setIfInBounds_toArray, List.set_cons_zero, List.set_cons_succ])
  refine wpAnyH_done (by kernel_rfl) ?_ _
  exact NoPanic.normal (HQ.out _ _ _ _ _ _ _ _ hin BB.out)

set_option maxRecDepth 100000 in
set_option maxHeartbeats 4000000 in
theorem regT30 {Q : Exit → Act → World → Prop} {v1 v2 v3 v4 v5 v6 v7 v8 v9 v10 v11 v12 v13 v14 v15 v16 v17 v18 v19 v20 v21 v22 v25 v26 v27 v28 v29 v30 v31 v32 v33 v34 v35 v36 v37 v38 v39 v40 v41 v42 v43 v44 v45 v46 v47 v48 v49 v50 v51 v52 v53 v54 v55 v56 v57 v58 v59 v60 v61 v62 v63 v64 v65 v66 v67 v68 v69 v70 v71 v72 v73 v74 v75 v76 v77 v78 v79 v80 v81 v82 v83 v84 v85 v86 v87 v88 v89 v90 v91 v92 v93 v94 v95 v96 v97 v98 v99 v100 v101 v102 v103 v104 v105 v106 v107 v108 v109 v110 v111 v112 v113 v114 v115 v116 v117 v118 v119 v120 v121 v122 v123 v124 v125 v126 v127 v128 v129 v130 v131 v132 v133 v134 v135 v136 v137 v138 v139 v140 v141 v142 v143 v144 v145 v146 v147 v148 v149 v150 v151 v152 v153 v154 v155 v156 v157 v158 v159 v160 v161 v162 v163 v164 v165 v166 v167 v168 v169 v170 v171 v172 v173 v174 v175 v176 v177 v178 v179 v180 v181 v182 v183 v184 v185 v186 v187 v188 v189 v190 v191 v192 v193 v194 v195 v196 v197 v198 v199 v200 v201 v202 v203 v204 v205 v206 v207 v208 v209 v210 v211 v212 v213 v214 v215 v216 v217 v218 v219 v220 v221 v222 v223 v224 v225 v226 v227 v228 v229 v230 v231 v232 v233 v234 v235 v236 v237 v238 : Value} {w : World} {x : Option Addr} {n0 cap : Nat} {l0 : List UInt8} (H_q : Hid (Frame.Bytes w (.slice x n0 cap) l0)) (HN0 : Hid (n0 = l0.length)) {bx g ii n_xb c_xb : Nat} {y : Int} (HGX : Hid (bx ≠ g)) (FZ : Hid (w.frozen? ⟨g, ii, none⟩ = false)) (hii : ii < n_xb) (i1 : (ii : Int) < (n_xb : Int)) (y0 : 0 ≤ y) (y1 : y ≤ 255) (KC : Hid (w.cell? ⟨g, ii, none⟩ = some (.int .u8 y))) (K1_x : Hid (w.cell? ⟨bx, 1, none⟩ = some (.slice (some ⟨g, 0, none⟩) n_xb c_xb)))
    (hQ : ∀ (u199 u200 u201 u202 u203 u204 u205 u206 u207 u208 u209 u210 u211 u212 u213 : Value) (y2 : Int) (wx : World), 0 ≤ y2 ∧ y2 ≤ 255 → y2 ≠ y → Below w.heap.size w wx → Q .normal ⟨#[.slice x n0 cap, v1, v2, v3, v4, v5, v6, v7, v8, v9, v10, v11, v12, v13, v14, v15, v16, v17, v18, v19, v20, v21, v22, .pointer (some ⟨bx, 0, none⟩), .int .i64 (ii : Nat), v25, v26, v27, v28, v29, v30, v31, v32, v33, v34, v35, v36, v37, v38, v39, v40, v41, v42, v43, v44, v45, v46, v47, v48, v49, v50, v51, v52, v53, v54, v55, v56, v57, v58, v59, v60, v61, v62, v63, v64, v65, v66, v67, v68, v69, v70, v71, v72, v73, v74, v75, v76, v77, v78, v79, v80, v81, v82, v83, v84, v85, v86, v87, v88, v89, v90, v91, v92, v93, v94, v95, v96, v97, v98, v99, v100, v101, v102, v103, v104, v105, v106, v107, v108, v109, v110, v111, v112, v113, v114, v115, v116, v117, v118, v119, v120, v121, v122, v123, v124, v125, v126, v127, v128, v129, v130, v131, v132, v133, v134, v135, v136, v137, v138, v139, v140, v141, v142, v143, v144, v145, v146, v147, v148, v149, v150, v151, v152, v153, v154, v155, v156, v157, v158, v159, v160, v161, v162, v163, v164, v165, v166, v167, v168, v169, v170, v171, v172, v173, v174, v175, v176, v177, v178, v179, v180, v181, v182, v183, v184, v185, v186, v187, v188, v189, v190, v191, v192, v193, v194, v195, v196, v197, v198, u199, u200, u201, u202, u203, u204, u205, u206, u207, u208, u209, u210, u211, u212, u213, v214, v215, v216, v217, v218, v219, v220, v221, v222, v223, v224, v225, v226, v227, v228, v229, v230, v231, v232, v233, v234, v235, v236, v237, v238], []⟩ (wx.setCell ⟨g, ii, none⟩ (.int .u8 y2))) :
    (Code.region 30 #[{ dst := some 199, op := Op.fieldAddr 28 (Operand.tmp 23) 1, type := 0, pos := "laws.go:631", after := #[], guard := none },
      { dst := some 200, op := Op.load 22 (Operand.tmp 199), type := 22, pos := "laws.go:631", after := #[{ on := 0, ground := Ground.data }], guard := none },
      { dst := some 201, op := Op.move (Operand.tmp 24), type := 3, pos := "laws.go:631", after := #[], guard := none },
      { dst := some 202, op := Op.fieldAddr 28 (Operand.tmp 23) 1, type := 0, pos := "laws.go:631", after := #[], guard := none },
      { dst := some 203, op := Op.load 22 (Operand.tmp 202), type := 22, pos := "laws.go:631", after := #[{ on := 3, ground := Ground.data }], guard := none },
      { dst := some 204, op := Op.move (Operand.tmp 24), type := 3, pos := "laws.go:631", after := #[], guard := none },
      { dst := some 205, op := Op.indexAddr 22 (Operand.tmp 203) (Operand.tmp 204), type := 0, pos := "laws.go:631", after := #[{ on := 4, ground := Ground.data }, { on := 5, ground := Ground.data }], guard := none },
      { dst := some 206, op := Op.load 5 (Operand.tmp 205), type := 5, pos := "laws.go:631", after := #[{ on := 6, ground := Ground.data }], guard := none },
      { dst := some 207, op := Op.binOp BinOp.add 5 (Operand.tmp 206) (Operand.const (Value.int IntKind.u8 1)) 5, type := 5, pos := "laws.go:631", after := #[{ on := 7, ground := Ground.data }], guard := none },
      { dst := some 208, op := Op.move (Operand.tmp 0), type := 22, pos := "laws.go:631", after := #[], guard := none },
      { dst := some 209, op := Op.call { callee := Callee.value (Operand.func 30), args := #[Operand.tmp 208, Operand.const (Value.int IntKind.i64 3)], argTypes := #[22, 3] }, type := 3, pos := "laws.go:631", after := #[{ on := 9, ground := Ground.data }], guard := none },
      { dst := some 210, op := Op.binOp BinOp.rem 3 (Operand.tmp 209) (Operand.const (Value.int IntKind.i64 255)) 3, type := 3, pos := "laws.go:631", after := #[{ on := 10, ground := Ground.data }], guard := none },
      { dst := some 211, op := Op.convert 3 5 (Operand.tmp 210), type := 5, pos := "laws.go:631", after := #[{ on := 11, ground := Ground.data }], guard := none },
      { dst := some 212, op := Op.binOp BinOp.add 5 (Operand.tmp 207) (Operand.tmp 211) 5, type := 5, pos := "laws.go:631", after := #[{ on := 8, ground := Ground.data }, { on := 12, ground := Ground.data }], guard := none },
      { dst := some 213, op := Op.indexAddr 22 (Operand.tmp 200) (Operand.tmp 201), type := 0, pos := "laws.go:631", after := #[{ on := 1, ground := Ground.data }, { on := 2, ground := Ground.data }, { on := 0, ground := Ground.phase }, { on := 1, ground := Ground.phase }, { on := 2, ground := Ground.phase }, { on := 3, ground := Ground.phase }, { on := 4, ground := Ground.phase }, { on := 5, ground := Ground.phase }, { on := 6, ground := Ground.phase }, { on := 7, ground := Ground.phase }, { on := 8, ground := Ground.phase }, { on := 9, ground := Ground.phase }, { on := 10, ground := Ground.phase }, { on := 11, ground := Ground.phase }, { on := 12, ground := Ground.phase }, { on := 13, ground := Ground.phase }], guard := none },
      { dst := none, op := Op.store 5 (Operand.tmp 213) (Operand.tmp 212), type := 0, pos := "laws.go:631", after := #[{ on := 14, ground := Ground.data }, { on := 13, ground := Ground.data }, { on := 10, ground := Ground.chain }, { on := 0, ground := Ground.phase }, { on := 1, ground := Ground.phase }, { on := 2, ground := Ground.phase }, { on := 3, ground := Ground.phase }, { on := 4, ground := Ground.phase }, { on := 5, ground := Ground.phase }, { on := 6, ground := Ground.phase }, { on := 7, ground := Ground.phase }, { on := 8, ground := Ground.phase }, { on := 9, ground := Ground.phase }, { on := 10, ground := Ground.phase }, { on := 11, ground := Ground.phase }, { on := 12, ground := Ground.phase }, { on := 13, ground := Ground.phase }], guard := none }] true).wp Tryz.prog Q ⟨#[.slice x n0 cap, v1, v2, v3, v4, v5, v6, v7, v8, v9, v10, v11, v12, v13, v14, v15, v16, v17, v18, v19, v20, v21, v22, .pointer (some ⟨bx, 0, none⟩), .int .i64 (ii : Nat), v25, v26, v27, v28, v29, v30, v31, v32, v33, v34, v35, v36, v37, v38, v39, v40, v41, v42, v43, v44, v45, v46, v47, v48, v49, v50, v51, v52, v53, v54, v55, v56, v57, v58, v59, v60, v61, v62, v63, v64, v65, v66, v67, v68, v69, v70, v71, v72, v73, v74, v75, v76, v77, v78, v79, v80, v81, v82, v83, v84, v85, v86, v87, v88, v89, v90, v91, v92, v93, v94, v95, v96, v97, v98, v99, v100, v101, v102, v103, v104, v105, v106, v107, v108, v109, v110, v111, v112, v113, v114, v115, v116, v117, v118, v119, v120, v121, v122, v123, v124, v125, v126, v127, v128, v129, v130, v131, v132, v133, v134, v135, v136, v137, v138, v139, v140, v141, v142, v143, v144, v145, v146, v147, v148, v149, v150, v151, v152, v153, v154, v155, v156, v157, v158, v159, v160, v161, v162, v163, v164, v165, v166, v167, v168, v169, v170, v171, v172, v173, v174, v175, v176, v177, v178, v179, v180, v181, v182, v183, v184, v185, v186, v187, v188, v189, v190, v191, v192, v193, v194, v195, v196, v197, v198, v199, v200, v201, v202, v203, v204, v205, v206, v207, v208, v209, v210, v211, v212, v213, v214, v215, v216, v217, v218, v219, v220, v221, v222, v223, v224, v225, v226, v227, v228, v229, v230, v231, v232, v233, v234, v235, v236, v237, v238], []⟩ w := by
  have HQ := Lib.hid hQ; clear hQ
  have hdr : Below w.heap.size w w.drew := (Below.refl _ _).drew
  have BB := Lib.hid hdr
  refine wp_region_noPanic ?_
  refine wp_region_held_drew (S := (fun w' => w'.cell? ⟨bx, 1, none⟩ = some (.slice (some ⟨g, 0, none⟩) n_xb c_xb))) (by kernel_rfl) ?_ (fun hHeld => ?_)
  · exact kc K1_x.out BB.out
  clear hdr
  generalize w.drew = wd at *
  refine wpAnyH_take (i := 0) (oi := { dst := some 199, op := Op.fieldAddr 28 (Operand.tmp 23) 1, type := 0, pos := "laws.go:631", after := #[], guard := none }) (v := ?_) rfl (by kernel_rfl) (by kernel_rfl) (by kernel_rfl) (fun _ _ _ h => h) (Or.inl ⟨by rfl, ?_⟩) (by assumption) ?_
  rotate_left
  · intro w' hSw; (try dsimp only at hSw); first | (go_simp; done) | (go_simp; with_reducible rfl)
  (try simp only [Act.put, List.setIfInBounds_toArray, List.set_cons_zero, List.set_cons_succ])
  refine wpAnyH_take (i := 1) (oi := { dst := some 200, op := Op.load 22 (Operand.tmp 199), type := 22, pos := "laws.go:631", after := #[{ on := 0, ground := Ground.data }], guard := none }) (v := ?_) rfl (by kernel_rfl) (by kernel_rfl) (by kernel_rfl) (fun _ _ _ h => h) (Or.inl ⟨by rfl, ?_⟩) (by assumption) ?_
  rotate_left
  · intro w' hSw; (try dsimp only at hSw); first | (go_simp; done) | (go_simp; with_reducible rfl)
  (try simp only [Act.put, List.setIfInBounds_toArray, List.set_cons_zero, List.set_cons_succ])
  refine wpAnyH_take (i := 2) (oi := { dst := some 201, op := Op.move (Operand.tmp 24), type := 3, pos := "laws.go:631", after := #[], guard := none }) (v := ?_) rfl (by kernel_rfl) (by kernel_rfl) (by kernel_rfl) (fun _ _ _ h => h) (Or.inl ⟨by rfl, ?_⟩) (by assumption) ?_
  rotate_left
  · intro w' hSw; (try dsimp only at hSw); first | (go_simp; done) | (go_simp; with_reducible rfl)
  (try simp only [Act.put, List.setIfInBounds_toArray, List.set_cons_zero, List.set_cons_succ])
  refine wpAnyH_take (i := 3) (oi := { dst := some 202, op := Op.fieldAddr 28 (Operand.tmp 23) 1, type := 0, pos := "laws.go:631", after := #[], guard := none }) (v := ?_) rfl (by kernel_rfl) (by kernel_rfl) (by kernel_rfl) (fun _ _ _ h => h) (Or.inl ⟨by rfl, ?_⟩) (by assumption) ?_
  rotate_left
  · intro w' hSw; (try dsimp only at hSw); first | (go_simp; done) | (go_simp; with_reducible rfl)
  (try simp only [Act.put, List.setIfInBounds_toArray, List.set_cons_zero, List.set_cons_succ])
  refine wpAnyH_take (i := 4) (oi := { dst := some 203, op := Op.load 22 (Operand.tmp 202), type := 22, pos := "laws.go:631", after := #[{ on := 3, ground := Ground.data }], guard := none }) (v := ?_) rfl (by kernel_rfl) (by kernel_rfl) (by kernel_rfl) (fun _ _ _ h => h) (Or.inl ⟨by rfl, ?_⟩) (by assumption) ?_
  rotate_left
  · intro w' hSw; (try dsimp only at hSw); first | (go_simp; done) | (go_simp; with_reducible rfl)
  (try simp only [Act.put, List.setIfInBounds_toArray, List.set_cons_zero, List.set_cons_succ])
  refine wpAnyH_take (i := 5) (oi := { dst := some 204, op := Op.move (Operand.tmp 24), type := 3, pos := "laws.go:631", after := #[], guard := none }) (v := ?_) rfl (by kernel_rfl) (by kernel_rfl) (by kernel_rfl) (fun _ _ _ h => h) (Or.inl ⟨by rfl, ?_⟩) (by assumption) ?_
  rotate_left
  · intro w' hSw; (try dsimp only at hSw); first | (go_simp; done) | (go_simp; with_reducible rfl)
  (try simp only [Act.put, List.setIfInBounds_toArray, List.set_cons_zero, List.set_cons_succ])
  refine wpAnyH_take (i := 6) (oi := { dst := some 205, op := Op.indexAddr 22 (Operand.tmp 203) (Operand.tmp 204), type := 0, pos := "laws.go:631", after := #[{ on := 4, ground := Ground.data }, { on := 5, ground := Ground.data }], guard := none }) (v := ?_) rfl (by kernel_rfl) (by kernel_rfl) (by kernel_rfl) (fun _ _ _ h => h) (Or.inl ⟨by rfl, ?_⟩) (by assumption) ?_
  rotate_left
  · intro w' hSw; (try dsimp only at hSw); first | (go_simp; done) | (go_simp; with_reducible rfl)
  (try simp only [Act.put, List.setIfInBounds_toArray, List.set_cons_zero, List.set_cons_succ])
  refine wpAnyH_take (i := 9) (oi := { dst := some 208, op := Op.move (Operand.tmp 0), type := 22, pos := "laws.go:631", after := #[], guard := none }) (v := ?_) rfl (by kernel_rfl) (by kernel_rfl) (by kernel_rfl) (fun _ _ _ h => h) (Or.inl ⟨by rfl, ?_⟩) (by assumption) ?_
  rotate_left
  · intro w' hSw; (try dsimp only at hSw); first | (go_simp; done) | (go_simp; with_reducible rfl)
  (try simp only [Act.put, List.setIfInBounds_toArray, List.set_cons_zero, List.set_cons_succ])
  refine wpAnyH_ready (rs := [7, 10]) (by kernel_rfl) (by simp) ?_
  refine AllReadyH.cons (o := { dst := some 206, op := Op.load 5 (Operand.tmp 205), type := 5, pos := "laws.go:631", after := #[{ on := 6, ground := Ground.data }], guard := none }) rfl (fun K hK => ?_) ?_
  ·
    have k0 := kc KC.out BB.out
    go_simp
    clear hHeld
    refine hK.out _ _ ?_ (fun hHeld => ?_)
    · (try dsimp only); exact kc K1_x.out BB.out
    clear hK K
    (try simp only [Act.put, List.setIfInBounds_toArray, List.set_cons_zero, List.set_cons_succ])
    refine wpAnyH_take (i := 8) (oi := { dst := some 207, op := Op.binOp BinOp.add 5 (Operand.tmp 206) (Operand.const (Value.int IntKind.u8 1)) 5, type := 5, pos := "laws.go:631", after := #[{ on := 7, ground := Ground.data }], guard := none }) (v := ?_) rfl (by kernel_rfl) (by kernel_rfl) (by kernel_rfl) (fun _ _ _ h => h) (Or.inl ⟨by rfl, ?_⟩) (by assumption) ?_
    rotate_left
    · intro w' hSw; (try dsimp only at hSw); first | (go_simp; done) | (go_simp; with_reducible rfl)
    (try simp only [Act.put, List.setIfInBounds_toArray, List.set_cons_zero, List.set_cons_succ])
    refine wpAnyH_ready (rs := [10]) (by kernel_rfl) (by simp) ?_
    refine AllReadyH.cons (o := { dst := some 209, op := Op.call { callee := Callee.value (Operand.func 30), args := #[Operand.tmp 208, Operand.const (Value.int IntKind.i64 3)], argTypes := #[22, 3] }, type := 3, pos := "laws.go:631", after := #[{ on := 9, ground := Ground.data }], guard := none }) rfl (fun K hK => ?_) AllReadyH.nil
    go_simp
    refine (Draw.lawAt x n0 cap 3 l0 _ (H_q.out.on BB.out) HN0.out (by decide)).mono ?_
    rintro e wn2 ⟨⟨r, rfl, r0, r1⟩, hww⟩
    have hb : Below wd.heap.size wd wn2 := by subst hww; exact Below.refl _ _
    clear hww
    obtain ⟨rr, rfl⟩ := Int.eq_ofNat_of_zero_le r0
    have htm : ((rr : Nat) : Int).tmod 255 = (rr : Int) % 255 := Int.tmod_eq_emod_of_nonneg (by omega)
    replace BB := Lib.hid (BB.out.trans (hb.mono BB.out.size))
    clear hb
    (try go_wp2_with fail)
    clear hHeld
    refine hK.out _ _ ?_ (fun hHeld => ?_)
    · (try dsimp only); exact kc K1_x.out BB.out
    clear hK K
    (try simp only [Act.put, List.setIfInBounds_toArray, List.set_cons_zero, List.set_cons_succ])
    refine wpAnyH_take (i := 11) (oi := { dst := some 210, op := Op.binOp BinOp.rem 3 (Operand.tmp 209) (Operand.const (Value.int IntKind.i64 255)) 3, type := 3, pos := "laws.go:631", after := #[{ on := 10, ground := Ground.data }], guard := none }) (v := ?_) rfl (by kernel_rfl) (by kernel_rfl) (by kernel_rfl) (fun _ _ _ h => h) (Or.inl ⟨by rfl, ?_⟩) (by assumption) ?_
    rotate_left
    · intro w' hSw; (try dsimp only at hSw); first | (go_simp; done) | (go_simp; with_reducible rfl)
    (try simp only [Act.put, List.setIfInBounds_toArray, List.set_cons_zero, List.set_cons_succ])
    refine wpAnyH_take (i := 12) (oi := { dst := some 211, op := Op.convert 3 5 (Operand.tmp 210), type := 5, pos := "laws.go:631", after := #[{ on := 11, ground := Ground.data }], guard := none }) (v := ?_) rfl (by kernel_rfl) (by kernel_rfl) (by kernel_rfl) (fun _ _ _ h => h) (Or.inl ⟨by rfl, ?_⟩) (by assumption) ?_
    rotate_left
    · intro w' hSw; (try dsimp only at hSw); first | (go_simp; done) | (go_simp; with_reducible rfl)
    (try simp only [Act.put, List.setIfInBounds_toArray, List.set_cons_zero, List.set_cons_succ])
    refine wpAnyH_take (i := 13) (oi := { dst := some 212, op := Op.binOp BinOp.add 5 (Operand.tmp 207) (Operand.tmp 211) 5, type := 5, pos := "laws.go:631", after := #[{ on := 8, ground := Ground.data }, { on := 12, ground := Ground.data }], guard := none }) (v := ?_) rfl (by kernel_rfl) (by kernel_rfl) (by kernel_rfl) (fun _ _ _ h => h) (Or.inl ⟨by rfl, ?_⟩) (by assumption) ?_
    rotate_left
    · intro w' hSw; (try dsimp only at hSw); first | (go_simp; done) | (go_simp; with_reducible rfl)
    (try simp only [Act.put, List.setIfInBounds_toArray, List.set_cons_zero, List.set_cons_succ])
    refine wpAnyH_take (i := 14) (oi := { dst := some 213, op := Op.indexAddr 22 (Operand.tmp 200) (Operand.tmp 201), type := 0, pos := "laws.go:631", after := #[{ on := 1, ground := Ground.data }, { on := 2, ground := Ground.data }, { on := 0, ground := Ground.phase }, { on := 1, ground := Ground.phase }, { on := 2, ground := Ground.phase }, { on := 3, ground := Ground.phase }, { on := 4, ground := Ground.phase }, { on := 5, ground := Ground.phase }, { on := 6, ground := Ground.phase }, { on := 7, ground := Ground.phase }, { on := 8, ground := Ground.phase }, { on := 9, ground := Ground.phase }, { on := 10, ground := Ground.phase }, { on := 11, ground := Ground.phase }, { on := 12, ground := Ground.phase }, { on := 13, ground := Ground.phase }], guard := none }) (v := ?_) rfl (by kernel_rfl) (by kernel_rfl) (by kernel_rfl) (fun _ _ _ h => h) (Or.inl ⟨by rfl, ?_⟩) (by assumption) ?_
    rotate_left
    · intro w' hSw; (try dsimp only at hSw); first | (go_simp; done) | (go_simp; with_reducible rfl)
    (try simp only [Act.put, List.setIfInBounds_toArray, List.set_cons_zero, List.set_cons_succ])
    refine wpAnyH_ready (rs := [15]) (by kernel_rfl) (by simp) ?_
    refine AllReadyH.cons (o := { dst := none, op := Op.store 5 (Operand.tmp 213) (Operand.tmp 212), type := 0, pos := "laws.go:631", after := #[{ on := 14, ground := Ground.data }, { on := 13, ground := Ground.data }, { on := 10, ground := Ground.chain }, { on := 0, ground := Ground.phase }, { on := 1, ground := Ground.phase }, { on := 2, ground := Ground.phase }, { on := 3, ground := Ground.phase }, { on := 4, ground := Ground.phase }, { on := 5, ground := Ground.phase }, { on := 6, ground := Ground.phase }, { on := 7, ground := Ground.phase }, { on := 8, ground := Ground.phase }, { on := 9, ground := Ground.phase }, { on := 10, ground := Ground.phase }, { on := 11, ground := Ground.phase }, { on := 12, ground := Ground.phase }, { on := 13, ground := Ground.phase }], guard := none }) rfl (fun K hK => ?_) AllReadyH.nil
    have f0 := (BB.out.frozen (cell_lt KC.out)).trans FZ.out
    have k1 := kc KC.out BB.out
    go_simp
    clear hHeld
    refine hK.out _ _ ?_ (fun hHeld => ?_)
    · (try dsimp only); exact (World.cell?_of_block (w := wn2) (Go.RowKit.Below.heap_setCell _ _ _ _ HGX.out)).trans (kc K1_x.out BB.out)
    clear hK K
    (try simp only [Act.put, List.setIfInBounds_toArray, List.set_cons_zero, List.set_cons_succ])
    refine wpAnyH_done (by kernel_rfl) ?_ _
    exact NoPanic.normal (HQ.out _ _ _ _ _ _ _ _ _ _ _ _ _ _ _ _ _ (byteTurn y rr y0 y1 r0).1 (byteTurn y rr y0 y1 r0).2 BB.out)
  refine AllReadyH.cons (o := { dst := some 209, op := Op.call { callee := Callee.value (Operand.func 30), args := #[Operand.tmp 208, Operand.const (Value.int IntKind.i64 3)], argTypes := #[22, 3] }, type := 3, pos := "laws.go:631", after := #[{ on := 9, ground := Ground.data }], guard := none }) rfl (fun K hK => ?_) AllReadyH.nil
  go_simp
  refine (Draw.lawAt x n0 cap 3 l0 _ (H_q.out.on BB.out) HN0.out (by decide)).mono ?_
  rintro e wn4 ⟨⟨r, rfl, r0, r1⟩, hww⟩
  have hb : Below wd.heap.size wd wn4 := by subst hww; exact Below.refl _ _
  clear hww
  obtain ⟨rr, rfl⟩ := Int.eq_ofNat_of_zero_le r0
  have htm : ((rr : Nat) : Int).tmod 255 = (rr : Int) % 255 := Int.tmod_eq_emod_of_nonneg (by omega)
  replace BB := Lib.hid (BB.out.trans (hb.mono BB.out.size))
  clear hb
  (try go_wp2_with fail)
  clear hHeld
  refine hK.out _ _ ?_ (fun hHeld => ?_)
  · (try dsimp only); exact kc K1_x.out BB.out
  clear hK K
  (try simp only [Act.put, List.setIfInBounds_toArray, List.set_cons_zero, List.set_cons_succ])
  refine wpAnyH_take (i := 11) (oi := { dst := some 210, op := Op.binOp BinOp.rem 3 (Operand.tmp 209) (Operand.const (Value.int IntKind.i64 255)) 3, type := 3, pos := "laws.go:631", after := #[{ on := 10, ground := Ground.data }], guard := none }) (v := ?_) rfl (by kernel_rfl) (by kernel_rfl) (by kernel_rfl) (fun _ _ _ h => h) (Or.inl ⟨by rfl, ?_⟩) (by assumption) ?_
  rotate_left
  · intro w' hSw; (try dsimp only at hSw); first | (go_simp; done) | (go_simp; with_reducible rfl)
  (try simp only [Act.put, List.setIfInBounds_toArray, List.set_cons_zero, List.set_cons_succ])
  refine wpAnyH_take (i := 12) (oi := { dst := some 211, op := Op.convert 3 5 (Operand.tmp 210), type := 5, pos := "laws.go:631", after := #[{ on := 11, ground := Ground.data }], guard := none }) (v := ?_) rfl (by kernel_rfl) (by kernel_rfl) (by kernel_rfl) (fun _ _ _ h => h) (Or.inl ⟨by rfl, ?_⟩) (by assumption) ?_
  rotate_left
  · intro w' hSw; (try dsimp only at hSw); first | (go_simp; done) | (go_simp; with_reducible rfl)
  (try simp only [Act.put, List.setIfInBounds_toArray, List.set_cons_zero, List.set_cons_succ])
  refine wpAnyH_ready (rs := [7]) (by kernel_rfl) (by simp) ?_
  refine AllReadyH.cons (o := { dst := some 206, op := Op.load 5 (Operand.tmp 205), type := 5, pos := "laws.go:631", after := #[{ on := 6, ground := Ground.data }], guard := none }) rfl (fun K hK => ?_) AllReadyH.nil
  have k0 := kc KC.out BB.out
  go_simp
  clear hHeld
  refine hK.out _ _ ?_ (fun hHeld => ?_)
  · (try dsimp only); exact kc K1_x.out BB.out
  clear hK K
  (try simp only [Act.put, List.setIfInBounds_toArray, List.set_cons_zero, List.set_cons_succ])
  refine wpAnyH_take (i := 8) (oi := { dst := some 207, op := Op.binOp BinOp.add 5 (Operand.tmp 206) (Operand.const (Value.int IntKind.u8 1)) 5, type := 5, pos := "laws.go:631", after := #[{ on := 7, ground := Ground.data }], guard := none }) (v := ?_) rfl (by kernel_rfl) (by kernel_rfl) (by kernel_rfl) (fun _ _ _ h => h) (Or.inl ⟨by rfl, ?_⟩) (by assumption) ?_
  rotate_left
  · intro w' hSw; (try dsimp only at hSw); first | (go_simp; done) | (go_simp; with_reducible rfl)
  (try simp only [Act.put, List.setIfInBounds_toArray, List.set_cons_zero, List.set_cons_succ])
  refine wpAnyH_take (i := 13) (oi := { dst := some 212, op := Op.binOp BinOp.add 5 (Operand.tmp 207) (Operand.tmp 211) 5, type := 5, pos := "laws.go:631", after := #[{ on := 8, ground := Ground.data }, { on := 12, ground := Ground.data }], guard := none }) (v := ?_) rfl (by kernel_rfl) (by kernel_rfl) (by kernel_rfl) (fun _ _ _ h => h) (Or.inl ⟨by rfl, ?_⟩) (by assumption) ?_
  rotate_left
  · intro w' hSw; (try dsimp only at hSw); first | (go_simp; done) | (go_simp; with_reducible rfl)
  (try simp only [Act.put, List.setIfInBounds_toArray, List.set_cons_zero, List.set_cons_succ])
  refine wpAnyH_take (i := 14) (oi := { dst := some 213, op := Op.indexAddr 22 (Operand.tmp 200) (Operand.tmp 201), type := 0, pos := "laws.go:631", after := #[{ on := 1, ground := Ground.data }, { on := 2, ground := Ground.data }, { on := 0, ground := Ground.phase }, { on := 1, ground := Ground.phase }, { on := 2, ground := Ground.phase }, { on := 3, ground := Ground.phase }, { on := 4, ground := Ground.phase }, { on := 5, ground := Ground.phase }, { on := 6, ground := Ground.phase }, { on := 7, ground := Ground.phase }, { on := 8, ground := Ground.phase }, { on := 9, ground := Ground.phase }, { on := 10, ground := Ground.phase }, { on := 11, ground := Ground.phase }, { on := 12, ground := Ground.phase }, { on := 13, ground := Ground.phase }], guard := none }) (v := ?_) rfl (by kernel_rfl) (by kernel_rfl) (by kernel_rfl) (fun _ _ _ h => h) (Or.inl ⟨by rfl, ?_⟩) (by assumption) ?_
  rotate_left
  · intro w' hSw; (try dsimp only at hSw); first | (go_simp; done) | (go_simp; with_reducible rfl)
  (try simp only [Act.put, List.setIfInBounds_toArray, List.set_cons_zero, List.set_cons_succ])
  refine wpAnyH_ready (rs := [15]) (by kernel_rfl) (by simp) ?_
  refine AllReadyH.cons (o := { dst := none, op := Op.store 5 (Operand.tmp 213) (Operand.tmp 212), type := 0, pos := "laws.go:631", after := #[{ on := 14, ground := Ground.data }, { on := 13, ground := Ground.data }, { on := 10, ground := Ground.chain }, { on := 0, ground := Ground.phase }, { on := 1, ground := Ground.phase }, { on := 2, ground := Ground.phase }, { on := 3, ground := Ground.phase }, { on := 4, ground := Ground.phase }, { on := 5, ground := Ground.phase }, { on := 6, ground := Ground.phase }, { on := 7, ground := Ground.phase }, { on := 8, ground := Ground.phase }, { on := 9, ground := Ground.phase }, { on := 10, ground := Ground.phase }, { on := 11, ground := Ground.phase }, { on := 12, ground := Ground.phase }, { on := 13, ground := Ground.phase }], guard := none }) rfl (fun K hK => ?_) AllReadyH.nil
  have f0 := (BB.out.frozen (cell_lt KC.out)).trans FZ.out
  have k1 := kc KC.out BB.out
  go_simp
  clear hHeld
  refine hK.out _ _ ?_ (fun hHeld => ?_)
  · (try dsimp only); exact (World.cell?_of_block (w := wn4) (Go.RowKit.Below.heap_setCell _ _ _ _ HGX.out)).trans (kc K1_x.out BB.out)
  clear hK K
  (try simp only [Act.put, List.setIfInBounds_toArray, List.set_cons_zero, List.set_cons_succ])
  refine wpAnyH_done (by kernel_rfl) ?_ _
  exact NoPanic.normal (HQ.out _ _ _ _ _ _ _ _ _ _ _ _ _ _ _ _ _ (byteTurn y rr y0 y1 r0).1 (byteTurn y rr y0 y1 r0).2 BB.out)

end Go.Proofs.YtbooamnlocobfaaGreat.Row
/- The last region of FnThings: whatever order is drawn, its value is true. No conditions. -/
namespace Go.Proofs.YtbooamnlocobfaaGreat.Row
open Go.ChangeShapes Go.WideShapes Go.ChangeAt Go.RowKit Go.Instr
set_option linter.unusedVariables false
set_option maxRecDepth 100000

set_option maxRecDepth 100000 in
set_option maxHeartbeats 4000000 in
theorem regT31 {Q : Exit → Act → World → Prop} {v0 v1 v2 v3 v4 v5 v6 v7 v8 v9 v10 v11 v13 v14 v15 v16 v17 v18 v19 v24 v25 v26 v27 v28 v29 v30 v31 v32 v33 v34 v35 v36 v37 v38 v39 v40 v41 v42 v43 v44 v45 v46 v47 v48 v49 v50 v51 v52 v53 v54 v55 v56 v57 v58 v59 v60 v61 v62 v63 v64 v65 v66 v67 v68 v69 v70 v71 v72 v73 v74 v75 v76 v77 v78 v79 v80 v81 v82 v83 v84 v85 v86 v87 v88 v89 v90 v91 v92 v93 v94 v95 v96 v97 v98 v99 v100 v101 v102 v103 v104 v105 v106 v107 v108 v109 v110 v111 v112 v113 v114 v115 v116 v117 v118 v119 v120 v121 v122 v123 v124 v125 v126 v127 v128 v129 v130 v131 v132 v133 v134 v135 v136 v137 v138 v139 v140 v141 v142 v143 v144 v145 v146 v147 v148 v149 v150 v151 v152 v153 v154 v155 v156 v157 v158 v159 v160 v161 v162 v163 v164 v165 v166 v167 v168 v169 v170 v171 v172 v173 v174 v175 v176 v177 v178 v179 v180 v181 v182 v183 v184 v185 v186 v187 v188 v189 v190 v191 v192 v193 v194 v195 v196 v197 v198 v199 v200 v201 v202 v203 v204 v205 v206 v207 v208 v209 v210 v211 v212 v213 v214 v215 v216 v217 v218 v219 v220 v221 v222 v223 v224 v225 v226 v227 v228 v229 v230 v231 v232 v233 v234 v235 v236 v237 v238 : Value} {w : World} {bt bu bv bx : Nat} {zw : Bool} {tg rf M fu sv : Int} {x_ta : Option Addr} {n_ta c_ta : Nat} {x_tb : Option Addr} {n_tb c_tb : Nat} {x_tc : Option Addr} {n_tc c_tc : Nat} {x_xb : Option Addr} {n_xb c_xb : Nat} {ra rc : List ByteArray} {rb m2 : List Int} (H_t : Hid (kD.At w (.agg #[.slice x_ta n_ta c_ta, .slice x_tb n_tb c_tb, .slice x_tc n_tc c_tc, .int .i64 rf, .int .i64 M]) (ra, rb, rc, rf, M))) (H_u : Hid (kD.At w (.agg #[.slice x_ta n_ta c_ta, .slice x_tb n_tb c_tb, .slice x_tc n_tc c_tc, .int .i64 fu, .int .i64 M]) (ra, rb, rc, fu, M))) (H_v : Hid (kD.At w (.agg #[.slice x_ta n_ta c_ta, .slice x_tb n_tb c_tb, .slice x_tc n_tc c_tc, .int .i64 rf, .int .i64 sv]) (ra, rb, rc, rf, sv))) (H_x : Hid (kD.At w (.agg #[.slice x_ta n_ta c_ta, .slice x_xb n_xb c_xb, .slice x_tc n_tc c_tc, .int .i64 rf, .int .i64 M]) (ra, m2, rc, rf, M))) (HT : Hid (verD tg (ra, rb, rc, rf, M) = true)) (HU : Hid (verD tg (ra, rb, rc, fu, M) = false)) (HV : Hid (verD tg (ra, rb, rc, rf, sv) = false)) (HX : Hid (verD tg (ra, m2, rc, rf, M) = zw)) (HYB : Hid (Sl.Byt rb)) (HY2 : Hid (Sl.Byt m2)) (HZ : Hid ((((n_tb : Nat) : Int) == 0) = zw)) (h1 : bulk ra + rb.length + bulk rc ≤ 3000) (h2 : bulk ra + m2.length + bulk rc ≤ 3000) (K0_t : Hid (w.cell? ⟨bt, 0, none⟩ = some (.slice x_ta n_ta c_ta))) (K1_t : Hid (w.cell? ⟨bt, 1, none⟩ = some (.slice x_tb n_tb c_tb))) (K2_t : Hid (w.cell? ⟨bt, 2, none⟩ = some (.slice x_tc n_tc c_tc))) (K3_t : Hid (w.cell? ⟨bt, 3, none⟩ = some (.int .i64 rf))) (K4_t : Hid (w.cell? ⟨bt, 4, none⟩ = some (.int .i64 M))) (K0_u : Hid (w.cell? ⟨bu, 0, none⟩ = some (.slice x_ta n_ta c_ta))) (K1_u : Hid (w.cell? ⟨bu, 1, none⟩ = some (.slice x_tb n_tb c_tb))) (K2_u : Hid (w.cell? ⟨bu, 2, none⟩ = some (.slice x_tc n_tc c_tc))) (K3_u : Hid (w.cell? ⟨bu, 3, none⟩ = some (.int .i64 fu))) (K4_u : Hid (w.cell? ⟨bu, 4, none⟩ = some (.int .i64 M))) (K0_v : Hid (w.cell? ⟨bv, 0, none⟩ = some (.slice x_ta n_ta c_ta))) (K1_v : Hid (w.cell? ⟨bv, 1, none⟩ = some (.slice x_tb n_tb c_tb))) (K2_v : Hid (w.cell? ⟨bv, 2, none⟩ = some (.slice x_tc n_tc c_tc))) (K3_v : Hid (w.cell? ⟨bv, 3, none⟩ = some (.int .i64 rf))) (K4_v : Hid (w.cell? ⟨bv, 4, none⟩ = some (.int .i64 sv))) (K0_x : Hid (w.cell? ⟨bx, 0, none⟩ = some (.slice x_ta n_ta c_ta))) (K1_x : Hid (w.cell? ⟨bx, 1, none⟩ = some (.slice x_xb n_xb c_xb))) (K2_x : Hid (w.cell? ⟨bx, 2, none⟩ = some (.slice x_tc n_tc c_tc))) (K3_x : Hid (w.cell? ⟨bx, 3, none⟩ = some (.int .i64 rf))) (K4_x : Hid (w.cell? ⟨bx, 4, none⟩ = some (.int .i64 M)))
    (hQ : ∀ (u214 u215 u216 u217 u218 u219 u220 u221 u222 u223 u224 u225 u226 u227 u228 u229 u230 u231 u232 u233 u234 u235 u236 u237 u238 : Value)  (wx : World), Below w.heap.size w wx → Q .normal ⟨#[v0, v1, .bool true, v3, v4, v5, v6, v7, v8, v9, v10, v11, .int .i64 tg, v13, v14, v15, v16, v17, v18, v19, .pointer (some ⟨bt, 0, none⟩), .pointer (some ⟨bu, 0, none⟩), .pointer (some ⟨bv, 0, none⟩), .pointer (some ⟨bx, 0, none⟩), v24, v25, v26, v27, v28, v29, v30, v31, v32, v33, v34, v35, v36, v37, v38, v39, v40, v41, v42, v43, v44, v45, v46, v47, v48, v49, v50, v51, v52, v53, v54, v55, v56, v57, v58, v59, v60, v61, v62, v63, v64, v65, v66, v67, v68, v69, v70, v71, v72, v73, v74, v75, v76, v77, v78, v79, v80, v81, v82, v83, v84, v85, v86, v87, v88, v89, v90, v91, v92, v93, v94, v95, v96, v97, v98, v99, v100, v101, v102, v103, v104, v105, v106, v107, v108, v109, v110, v111, v112, v113, v114, v115, v116, v117, v118, v119, v120, v121, v122, v123, v124, v125, v126, v127, v128, v129, v130, v131, v132, v133, v134, v135, v136, v137, v138, v139, v140, v141, v142, v143, v144, v145, v146, v147, v148, v149, v150, v151, v152, v153, v154, v155, v156, v157, v158, v159, v160, v161, v162, v163, v164, v165, v166, v167, v168, v169, v170, v171, v172, v173, v174, v175, v176, v177, v178, v179, v180, v181, v182, v183, v184, v185, v186, v187, v188, v189, v190, v191, v192, v193, v194, v195, v196, v197, v198, v199, v200, v201, v202, v203, v204, v205, v206, v207, v208, v209, v210, v211, v212, v213, u214, u215, u216, u217, u218, u219, u220, u221, u222, u223, u224, u225, u226, u227, u228, u229, u230, u231, u232, u233, u234, u235, u236, u237, u238], []⟩ wx) :
    (Code.region 31 #[{ dst := some 214, op := Op.move (Operand.tmp 12), type := 3, pos := "laws.go:633", after := #[], guard := none },
      { dst := some 215, op := Op.load 28 (Operand.tmp 20), type := 28, pos := "laws.go:633", after := #[], guard := none },
      { dst := some 216, op := Op.call { callee := Callee.value (Operand.func 19), args := #[Operand.tmp 214, Operand.tmp 215], argTypes := #[3, 28] }, type := 4, pos := "laws.go:633", after := #[{ on := 0, ground := Ground.data }, { on := 1, ground := Ground.data }], guard := none },
      { dst := some 217, op := Op.move (Operand.tmp 216), type := 4, pos := "laws.go:633", after := #[{ on := 2, ground := Ground.data }, { on := 2, ground := Ground.chain }], guard := none },
      { dst := some 218, op := Op.move (Operand.tmp 12), type := 3, pos := "laws.go:633", after := #[{ on := 3, ground := Ground.guard }], guard := some (3, true) },
      { dst := some 219, op := Op.load 28 (Operand.tmp 21), type := 28, pos := "laws.go:633", after := #[{ on := 3, ground := Ground.guard }], guard := some (3, true) },
      { dst := some 220, op := Op.call { callee := Callee.value (Operand.func 19), args := #[Operand.tmp 218, Operand.tmp 219], argTypes := #[3, 28] }, type := 4, pos := "laws.go:633", after := #[{ on := 4, ground := Ground.data }, { on := 5, ground := Ground.data }, { on := 3, ground := Ground.chain }, { on := 3, ground := Ground.guard }], guard := some (3, true) },
      { dst := some 221, op := Op.unOp UnOp.not 4 (Operand.tmp 220), type := 4, pos := "laws.go:633", after := #[{ on := 6, ground := Ground.data }, { on := 3, ground := Ground.guard }], guard := some (3, true) },
      { dst := some 222, op := Op.pick (Operand.tmp 217) (Operand.tmp 221) (Operand.const (Value.bool false)), type := 4, pos := "laws.go:633", after := #[{ on := 3, ground := Ground.data }, { on := 7, ground := Ground.data }], guard := none },
      { dst := some 223, op := Op.move (Operand.tmp 222), type := 4, pos := "laws.go:633", after := #[{ on := 8, ground := Ground.data }, { on := 6, ground := Ground.chain }], guard := none },
      { dst := some 224, op := Op.move (Operand.tmp 12), type := 3, pos := "laws.go:633", after := #[{ on := 9, ground := Ground.guard }], guard := some (9, true) },
      { dst := some 225, op := Op.load 28 (Operand.tmp 22), type := 28, pos := "laws.go:633", after := #[{ on := 9, ground := Ground.guard }], guard := some (9, true) },
      { dst := some 226, op := Op.call { callee := Callee.value (Operand.func 19), args := #[Operand.tmp 224, Operand.tmp 225], argTypes := #[3, 28] }, type := 4, pos := "laws.go:633", after := #[{ on := 10, ground := Ground.data }, { on := 11, ground := Ground.data }, { on := 9, ground := Ground.chain }, { on := 9, ground := Ground.guard }], guard := some (9, true) },
      { dst := some 227, op := Op.unOp UnOp.not 4 (Operand.tmp 226), type := 4, pos := "laws.go:633", after := #[{ on := 12, ground := Ground.data }, { on := 9, ground := Ground.guard }], guard := some (9, true) },
      { dst := some 228, op := Op.pick (Operand.tmp 223) (Operand.tmp 227) (Operand.const (Value.bool false)), type := 4, pos := "laws.go:633", after := #[{ on := 9, ground := Ground.data }, { on := 13, ground := Ground.data }], guard := none },
      { dst := some 229, op := Op.move (Operand.tmp 228), type := 4, pos := "laws.go:633", after := #[{ on := 14, ground := Ground.data }, { on := 12, ground := Ground.chain }], guard := none },
      { dst := some 230, op := Op.move (Operand.tmp 12), type := 3, pos := "laws.go:633", after := #[{ on := 15, ground := Ground.guard }], guard := some (15, true) },
      { dst := some 231, op := Op.load 28 (Operand.tmp 23), type := 28, pos := "laws.go:633", after := #[{ on := 15, ground := Ground.guard }], guard := some (15, true) },
      { dst := some 232, op := Op.call { callee := Callee.value (Operand.func 19), args := #[Operand.tmp 230, Operand.tmp 231], argTypes := #[3, 28] }, type := 4, pos := "laws.go:633", after := #[{ on := 16, ground := Ground.data }, { on := 17, ground := Ground.data }, { on := 15, ground := Ground.chain }, { on := 15, ground := Ground.guard }], guard := some (15, true) },
      { dst := some 233, op := Op.fieldAddr 28 (Operand.tmp 20) 1, type := 0, pos := "laws.go:633", after := #[{ on := 15, ground := Ground.guard }], guard := some (15, true) },
      { dst := some 234, op := Op.load 22 (Operand.tmp 233), type := 22, pos := "laws.go:633", after := #[{ on := 19, ground := Ground.data }, { on := 15, ground := Ground.guard }], guard := some (15, true) },
      { dst := some 235, op := Op.call { callee := Callee.builtin Builtin.len, args := #[Operand.tmp 234], argTypes := #[22] }, type := 3, pos := "laws.go:633", after := #[{ on := 20, ground := Ground.data }, { on := 15, ground := Ground.guard }], guard := some (15, true) },
      { dst := some 236, op := Op.binOp BinOp.eql 3 (Operand.tmp 235) (Operand.const (Value.int IntKind.i64 0)) 3, type := 4, pos := "laws.go:633", after := #[{ on := 21, ground := Ground.data }, { on := 15, ground := Ground.guard }], guard := some (15, true) },
      { dst := some 237, op := Op.binOp BinOp.eql 4 (Operand.tmp 232) (Operand.tmp 236) 4, type := 4, pos := "laws.go:633", after := #[{ on := 18, ground := Ground.data }, { on := 22, ground := Ground.data }, { on := 15, ground := Ground.guard }], guard := some (15, true) },
      { dst := some 238, op := Op.pick (Operand.tmp 229) (Operand.tmp 237) (Operand.const (Value.bool false)), type := 4, pos := "laws.go:633", after := #[{ on := 15, ground := Ground.data }, { on := 23, ground := Ground.data }], guard := none },
      { dst := some 2, op := Op.assign (Operand.tmp 238), type := 4, pos := "laws.go:633", after := #[{ on := 24, ground := Ground.data }, { on := 18, ground := Ground.chain }, { on := 0, ground := Ground.phase }, { on := 1, ground := Ground.phase }, { on := 2, ground := Ground.phase }, { on := 3, ground := Ground.phase }, { on := 4, ground := Ground.phase }, { on := 5, ground := Ground.phase }, { on := 6, ground := Ground.phase }, { on := 7, ground := Ground.phase }, { on := 8, ground := Ground.phase }, { on := 9, ground := Ground.phase }, { on := 10, ground := Ground.phase }, { on := 11, ground := Ground.phase }, { on := 12, ground := Ground.phase }, { on := 13, ground := Ground.phase }, { on := 14, ground := Ground.phase }, { on := 15, ground := Ground.phase }, { on := 16, ground := Ground.phase }, { on := 17, ground := Ground.phase }, { on := 18, ground := Ground.phase }, { on := 19, ground := Ground.phase }, { on := 20, ground := Ground.phase }, { on := 21, ground := Ground.phase }, { on := 22, ground := Ground.phase }, { on := 23, ground := Ground.phase }, { on := 24, ground := Ground.phase }], guard := none }] true).wp Tryz.prog Q ⟨#[v0, v1, v2, v3, v4, v5, v6, v7, v8, v9, v10, v11, .int .i64 tg, v13, v14, v15, v16, v17, v18, v19, .pointer (some ⟨bt, 0, none⟩), .pointer (some ⟨bu, 0, none⟩), .pointer (some ⟨bv, 0, none⟩), .pointer (some ⟨bx, 0, none⟩), v24, v25, v26, v27, v28, v29, v30, v31, v32, v33, v34, v35, v36, v37, v38, v39, v40, v41, v42, v43, v44, v45, v46, v47, v48, v49, v50, v51, v52, v53, v54, v55, v56, v57, v58, v59, v60, v61, v62, v63, v64, v65, v66, v67, v68, v69, v70, v71, v72, v73, v74, v75, v76, v77, v78, v79, v80, v81, v82, v83, v84, v85, v86, v87, v88, v89, v90, v91, v92, v93, v94, v95, v96, v97, v98, v99, v100, v101, v102, v103, v104, v105, v106, v107, v108, v109, v110, v111, v112, v113, v114, v115, v116, v117, v118, v119, v120, v121, v122, v123, v124, v125, v126, v127, v128, v129, v130, v131, v132, v133, v134, v135, v136, v137, v138, v139, v140, v141, v142, v143, v144, v145, v146, v147, v148, v149, v150, v151, v152, v153, v154, v155, v156, v157, v158, v159, v160, v161, v162, v163, v164, v165, v166, v167, v168, v169, v170, v171, v172, v173, v174, v175, v176, v177, v178, v179, v180, v181, v182, v183, v184, v185, v186, v187, v188, v189, v190, v191, v192, v193, v194, v195, v196, v197, v198, v199, v200, v201, v202, v203, v204, v205, v206, v207, v208, v209, v210, v211, v212, v213, v214, v215, v216, v217, v218, v219, v220, v221, v222, v223, v224, v225, v226, v227, v228, v229, v230, v231, v232, v233, v234, v235, v236, v237, v238], []⟩ w := by
  have HQ := Lib.hid hQ; clear hQ
  have hdr : Below w.heap.size w w.drew := (Below.refl _ _).drew
  have hz := HZ.out
  have BB := Lib.hid hdr
  refine wp_region_noPanic ?_
  refine wp_region_held_drew (S := (fun w' => w'.cell? ⟨bt, 0, none⟩ = some (.slice x_ta n_ta c_ta) ∧ w'.cell? ⟨bt, 1, none⟩ = some (.slice x_tb n_tb c_tb) ∧ w'.cell? ⟨bt, 2, none⟩ = some (.slice x_tc n_tc c_tc) ∧ w'.cell? ⟨bt, 3, none⟩ = some (.int .i64 rf) ∧ w'.cell? ⟨bt, 4, none⟩ = some (.int .i64 M) ∧ w'.cell? ⟨bu, 0, none⟩ = some (.slice x_ta n_ta c_ta) ∧ w'.cell? ⟨bu, 1, none⟩ = some (.slice x_tb n_tb c_tb) ∧ w'.cell? ⟨bu, 2, none⟩ = some (.slice x_tc n_tc c_tc) ∧ w'.cell? ⟨bu, 3, none⟩ = some (.int .i64 fu) ∧ w'.cell? ⟨bu, 4, none⟩ = some (.int .i64 M) ∧ w'.cell? ⟨bv, 0, none⟩ = some (.slice x_ta n_ta c_ta) ∧ w'.cell? ⟨bv, 1, none⟩ = some (.slice x_tb n_tb c_tb) ∧ w'.cell? ⟨bv, 2, none⟩ = some (.slice x_tc n_tc c_tc) ∧ w'.cell? ⟨bv, 3, none⟩ = some (.int .i64 rf) ∧ w'.cell? ⟨bv, 4, none⟩ = some (.int .i64 sv) ∧ w'.cell? ⟨bx, 0, none⟩ = some (.slice x_ta n_ta c_ta) ∧ w'.cell? ⟨bx, 1, none⟩ = some (.slice x_xb n_xb c_xb) ∧ w'.cell? ⟨bx, 2, none⟩ = some (.slice x_tc n_tc c_tc) ∧ w'.cell? ⟨bx, 3, none⟩ = some (.int .i64 rf) ∧ w'.cell? ⟨bx, 4, none⟩ = some (.int .i64 M))) (by kernel_rfl) ?_ (fun hHeld => ?_)
  · exact ⟨kc K0_t.out BB.out, kc K1_t.out BB.out, kc K2_t.out BB.out, kc K3_t.out BB.out, kc K4_t.out BB.out, kc K0_u.out BB.out, kc K1_u.out BB.out, kc K2_u.out BB.out, kc K3_u.out BB.out, kc K4_u.out BB.out, kc K0_v.out BB.out, kc K1_v.out BB.out, kc K2_v.out BB.out, kc K3_v.out BB.out, kc K4_v.out BB.out, kc K0_x.out BB.out, kc K1_x.out BB.out, kc K2_x.out BB.out, kc K3_x.out BB.out, kc K4_x.out BB.out⟩
  clear hdr
  generalize w.drew = wd at *
  refine wpAnyH_take (i := 0) (oi := { dst := some 214, op := Op.move (Operand.tmp 12), type := 3, pos := "laws.go:633", after := #[], guard := none }) (v := ?_) rfl (by kernel_rfl) (by kernel_rfl) (by kernel_rfl) (fun _ _ _ h => h) (Or.inl ⟨by rfl, ?_⟩) (by assumption) ?_
  rotate_left
  · intro w' hSw; (try dsimp only at hSw); first | (go_simp; done) | (go_simp; with_reducible rfl)
  (try simp only [Act.put, List.setIfInBounds_toArray, List.set_cons_zero, List.set_cons_succ])
  refine wpAnyH_take (i := 1) (oi := { dst := some 215, op := Op.load 28 (Operand.tmp 20), type := 28, pos := "laws.go:633", after := #[], guard := none }) (v := ?_) rfl (by kernel_rfl) (by kernel_rfl) (by kernel_rfl) (fun _ _ _ h => h) (Or.inl ⟨by rfl, ?_⟩) (by assumption) ?_
  rotate_left
  · intro w' hSw; (try dsimp only at hSw); first | (go_simp; done) | (go_simp; with_reducible rfl)
  (try simp only [Act.put, List.setIfInBounds_toArray, List.set_cons_zero, List.set_cons_succ])
  refine wpAnyH_ready (rs := [2]) (by kernel_rfl) (by simp) ?_
  refine AllReadyH.cons (o := { dst := some 216, op := Op.call { callee := Callee.value (Operand.func 19), args := #[Operand.tmp 214, Operand.tmp 215], argTypes := #[3, 28] }, type := 4, pos := "laws.go:633", after := #[{ on := 0, ground := Ground.data }, { on := 1, ground := Ground.data }], guard := none }) rfl (fun K hK => ?_) AllReadyH.nil
  go_simp
  refine (iVerV true HT.out (H_t.out.on BB.out) HYB.out (show bulk ra + rb.length + bulk rc ≤ 1200000 by omega)).mono ?_
  rintro e wn1 ⟨rfl, hb⟩
  replace BB := Lib.hid (BB.out.trans (hb.mono BB.out.size))
  clear hb
  (try go_wp2_with fail)
  clear hHeld
  refine hK.out _ _ ?_ (fun hHeld => ?_)
  · (try dsimp only); exact ⟨kc K0_t.out BB.out, kc K1_t.out BB.out, kc K2_t.out BB.out, kc K3_t.out BB.out, kc K4_t.out BB.out, kc K0_u.out BB.out, kc K1_u.out BB.out, kc K2_u.out BB.out, kc K3_u.out BB.out, kc K4_u.out BB.out, kc K0_v.out BB.out, kc K1_v.out BB.out, kc K2_v.out BB.out, kc K3_v.out BB.out, kc K4_v.out BB.out, kc K0_x.out BB.out, kc K1_x.out BB.out, kc K2_x.out BB.out, kc K3_x.out BB.out, kc K4_x.out BB.out⟩
  clear hK K
  (try simp only [Act.put, List.setIfInBounds_toArray, List.set_cons_zero, List.set_cons_succ])
  refine wpAnyH_take (i := 3) (oi := { dst := some 217, op := Op.move (Operand.tmp 216), type := 4, pos := "laws.go:633", after := #[{ on := 2, ground := Ground.data }, { on := 2, ground := Ground.chain }], guard := none }) (v := ?_) rfl (by kernel_rfl) (by kernel_rfl) (by kernel_rfl) (fun _ _ _ h => h) (Or.inl ⟨by rfl, ?_⟩) (by assumption) ?_
  rotate_left
  · intro w' hSw; (try dsimp only at hSw); first | (go_simp; done) | (go_simp; with_reducible rfl)
  (try simp only [Act.put, List.setIfInBounds_toArray, List.set_cons_zero, List.set_cons_succ])
  refine wpAnyH_take (i := 4) (oi := { dst := some 218, op := Op.move (Operand.tmp 12), type := 3, pos := "laws.go:633", after := #[{ on := 3, ground := Ground.guard }], guard := some (3, true) }) (v := ?_) rfl (by kernel_rfl) (by kernel_rfl) (by kernel_rfl) (fun _ _ _ h => h) (Or.inl ⟨by rfl, ?_⟩) (by assumption) ?_
  rotate_left
  · intro w' hSw; (try dsimp only at hSw); first | (go_simp; done) | (go_simp; with_reducible rfl)
  (try simp only [Act.put, List.setIfInBounds_toArray, List.set_cons_zero, List.set_cons_succ])
  refine wpAnyH_take (i := 5) (oi := { dst := some 219, op := Op.load 28 (Operand.tmp 21), type := 28, pos := "laws.go:633", after := #[{ on := 3, ground := Ground.guard }], guard := some (3, true) }) (v := ?_) rfl (by kernel_rfl) (by kernel_rfl) (by kernel_rfl) (fun _ _ _ h => h) (Or.inl ⟨by rfl, ?_⟩) (by assumption) ?_
  rotate_left
  · intro w' hSw; (try dsimp only at hSw); first | (go_simp; done) | (go_simp; with_reducible rfl)
  (try simp only [Act.put, List.setIfInBounds_toArray, List.set_cons_zero, List.set_cons_succ])
  refine wpAnyH_ready (rs := [6]) (by kernel_rfl) (by simp) ?_
  refine AllReadyH.cons (o := { dst := some 220, op := Op.call { callee := Callee.value (Operand.func 19), args := #[Operand.tmp 218, Operand.tmp 219], argTypes := #[3, 28] }, type := 4, pos := "laws.go:633", after := #[{ on := 4, ground := Ground.data }, { on := 5, ground := Ground.data }, { on := 3, ground := Ground.chain }, { on := 3, ground := Ground.guard }], guard := some (3, true) }) rfl (fun K hK => ?_) AllReadyH.nil
  go_simp
  refine (iVerV false HU.out (H_u.out.on BB.out) HYB.out (show bulk ra + rb.length + bulk rc ≤ 1200000 by omega)).mono ?_
  rintro e wn2 ⟨rfl, hb⟩
  replace BB := Lib.hid (BB.out.trans (hb.mono BB.out.size))
  clear hb
  (try go_wp2_with fail)
  clear hHeld
  refine hK.out _ _ ?_ (fun hHeld => ?_)
  · (try dsimp only); exact ⟨kc K0_t.out BB.out, kc K1_t.out BB.out, kc K2_t.out BB.out, kc K3_t.out BB.out, kc K4_t.out BB.out, kc K0_u.out BB.out, kc K1_u.out BB.out, kc K2_u.out BB.out, kc K3_u.out BB.out, kc K4_u.out BB.out, kc K0_v.out BB.out, kc K1_v.out BB.out, kc K2_v.out BB.out, kc K3_v.out BB.out, kc K4_v.out BB.out, kc K0_x.out BB.out, kc K1_x.out BB.out, kc K2_x.out BB.out, kc K3_x.out BB.out, kc K4_x.out BB.out⟩
  clear hK K
  (try simp only [Act.put, List.setIfInBounds_toArray, List.set_cons_zero, List.set_cons_succ])
  refine wpAnyH_take (i := 7) (oi := { dst := some 221, op := Op.unOp UnOp.not 4 (Operand.tmp 220), type := 4, pos := "laws.go:633", after := #[{ on := 6, ground := Ground.data }, { on := 3, ground := Ground.guard }], guard := some (3, true) }) (v := ?_) rfl (by kernel_rfl) (by kernel_rfl) (by kernel_rfl) (fun _ _ _ h => h) (Or.inl ⟨by rfl, ?_⟩) (by assumption) ?_
  rotate_left
  · intro w' hSw; (try dsimp only at hSw); first | (go_simp; done) | (go_simp; with_reducible rfl)
  (try simp only [Act.put, List.setIfInBounds_toArray, List.set_cons_zero, List.set_cons_succ])
  refine wpAnyH_take (i := 8) (oi := { dst := some 222, op := Op.pick (Operand.tmp 217) (Operand.tmp 221) (Operand.const (Value.bool false)), type := 4, pos := "laws.go:633", after := #[{ on := 3, ground := Ground.data }, { on := 7, ground := Ground.data }], guard := none }) (v := ?_) rfl (by kernel_rfl) (by kernel_rfl) (by kernel_rfl) (fun _ _ _ h => h) (Or.inl ⟨by rfl, ?_⟩) (by assumption) ?_
  rotate_left
  · intro w' hSw; (try dsimp only at hSw); first | (go_simp; done) | (go_simp; with_reducible rfl)
  (try simp only [Act.put, List.setIfInBounds_toArray, List.set_cons_zero, List.set_cons_succ])
  refine wpAnyH_take (i := 9) (oi := { dst := some 223, op := Op.move (Operand.tmp 222), type := 4, pos := "laws.go:633", after := #[{ on := 8, ground := Ground.data }, { on := 6, ground := Ground.chain }], guard := none }) (v := ?_) rfl (by kernel_rfl) (by kernel_rfl) (by kernel_rfl) (fun _ _ _ h => h) (Or.inl ⟨by rfl, ?_⟩) (by assumption) ?_
  rotate_left
  · intro w' hSw; (try dsimp only at hSw); first | (go_simp; done) | (go_simp; with_reducible rfl)
  (try simp only [Act.put, List.setIfInBounds_toArray, List.set_cons_zero, List.set_cons_succ])
  refine wpAnyH_take (i := 10) (oi := { dst := some 224, op := Op.move (Operand.tmp 12), type := 3, pos := "laws.go:633", after := #[{ on := 9, ground := Ground.guard }], guard := some (9, true) }) (v := ?_) rfl (by kernel_rfl) (by kernel_rfl) (by kernel_rfl) (fun _ _ _ h => h) (Or.inl ⟨by rfl, ?_⟩) (by assumption) ?_
  rotate_left
  · intro w' hSw; (try dsimp only at hSw); first | (go_simp; done) | (go_simp; with_reducible rfl)
  (try simp only [Act.put, List.setIfInBounds_toArray, List.set_cons_zero, List.set_cons_succ])
  refine wpAnyH_take (i := 11) (oi := { dst := some 225, op := Op.load 28 (Operand.tmp 22), type := 28, pos := "laws.go:633", after := #[{ on := 9, ground := Ground.guard }], guard := some (9, true) }) (v := ?_) rfl (by kernel_rfl) (by kernel_rfl) (by kernel_rfl) (fun _ _ _ h => h) (Or.inl ⟨by rfl, ?_⟩) (by assumption) ?_
  rotate_left
  · intro w' hSw; (try dsimp only at hSw); first | (go_simp; done) | (go_simp; with_reducible rfl)
  (try simp only [Act.put, List.setIfInBounds_toArray, List.set_cons_zero, List.set_cons_succ])
  refine wpAnyH_ready (rs := [12]) (by kernel_rfl) (by simp) ?_
  refine AllReadyH.cons (o := { dst := some 226, op := Op.call { callee := Callee.value (Operand.func 19), args := #[Operand.tmp 224, Operand.tmp 225], argTypes := #[3, 28] }, type := 4, pos := "laws.go:633", after := #[{ on := 10, ground := Ground.data }, { on := 11, ground := Ground.data }, { on := 9, ground := Ground.chain }, { on := 9, ground := Ground.guard }], guard := some (9, true) }) rfl (fun K hK => ?_) AllReadyH.nil
  go_simp
  refine (iVerV false HV.out (H_v.out.on BB.out) HYB.out (show bulk ra + rb.length + bulk rc ≤ 1200000 by omega)).mono ?_
  rintro e wn3 ⟨rfl, hb⟩
  replace BB := Lib.hid (BB.out.trans (hb.mono BB.out.size))
  clear hb
  (try go_wp2_with fail)
  clear hHeld
  refine hK.out _ _ ?_ (fun hHeld => ?_)
  · (try dsimp only); exact ⟨kc K0_t.out BB.out, kc K1_t.out BB.out, kc K2_t.out BB.out, kc K3_t.out BB.out, kc K4_t.out BB.out, kc K0_u.out BB.out, kc K1_u.out BB.out, kc K2_u.out BB.out, kc K3_u.out BB.out, kc K4_u.out BB.out, kc K0_v.out BB.out, kc K1_v.out BB.out, kc K2_v.out BB.out, kc K3_v.out BB.out, kc K4_v.out BB.out, kc K0_x.out BB.out, kc K1_x.out BB.out, kc K2_x.out BB.out, kc K3_x.out BB.out, kc K4_x.out BB.out⟩
  clear hK K
  (try simp only [Act.put, List.setIfInBounds_toArray, List.set_cons_zero, List.set_cons_succ])
  refine wpAnyH_take (i := 13) (oi := { dst := some 227, op := Op.unOp UnOp.not 4 (Operand.tmp 226), type := 4, pos := "laws.go:633", after := #[{ on := 12, ground := Ground.data }, { on := 9, ground := Ground.guard }], guard := some (9, true) }) (v := ?_) rfl (by kernel_rfl) (by kernel_rfl) (by kernel_rfl) (fun _ _ _ h => h) (Or.inl ⟨by rfl, ?_⟩) (by assumption) ?_
  rotate_left
  · intro w' hSw; (try dsimp only at hSw); first | (go_simp; done) | (go_simp; with_reducible rfl)
  (try simp only [Act.put, List.setIfInBounds_toArray, List.set_cons_zero, List.set_cons_succ])
  refine wpAnyH_take (i := 14) (oi := { dst := some 228, op := Op.pick (Operand.tmp 223) (Operand.tmp 227) (Operand.const (Value.bool false)), type := 4, pos := "laws.go:633", after := #[{ on := 9, ground := Ground.data }, { on := 13, ground := Ground.data }], guard := none }) (v := ?_) rfl (by kernel_rfl) (by kernel_rfl) (by kernel_rfl) (fun _ _ _ h => h) (Or.inl ⟨by rfl, ?_⟩) (by assumption) ?_
  rotate_left
  · intro w' hSw; (try dsimp only at hSw); first | (go_simp; done) | (go_simp; with_reducible rfl)
  (try simp only [Act.put, List.setIfInBounds_toArray, List.set_cons_zero, List.set_cons_succ])
  refine wpAnyH_take (i := 15) (oi := { dst := some 229, op := Op.move (Operand.tmp 228), type := 4, pos := "laws.go:633", after := #[{ on := 14, ground := Ground.data }, { on := 12, ground := Ground.chain }], guard := none }) (v := ?_) rfl (by kernel_rfl) (by kernel_rfl) (by kernel_rfl) (fun _ _ _ h => h) (Or.inl ⟨by rfl, ?_⟩) (by assumption) ?_
  rotate_left
  · intro w' hSw; (try dsimp only at hSw); first | (go_simp; done) | (go_simp; with_reducible rfl)
  (try simp only [Act.put, List.setIfInBounds_toArray, List.set_cons_zero, List.set_cons_succ])
  refine wpAnyH_take (i := 16) (oi := { dst := some 230, op := Op.move (Operand.tmp 12), type := 3, pos := "laws.go:633", after := #[{ on := 15, ground := Ground.guard }], guard := some (15, true) }) (v := ?_) rfl (by kernel_rfl) (by kernel_rfl) (by kernel_rfl) (fun _ _ _ h => h) (Or.inl ⟨by rfl, ?_⟩) (by assumption) ?_
  rotate_left
  · intro w' hSw; (try dsimp only at hSw); first | (go_simp; done) | (go_simp; with_reducible rfl)
  (try simp only [Act.put, List.setIfInBounds_toArray, List.set_cons_zero, List.set_cons_succ])
  refine wpAnyH_take (i := 17) (oi := { dst := some 231, op := Op.load 28 (Operand.tmp 23), type := 28, pos := "laws.go:633", after := #[{ on := 15, ground := Ground.guard }], guard := some (15, true) }) (v := ?_) rfl (by kernel_rfl) (by kernel_rfl) (by kernel_rfl) (fun _ _ _ h => h) (Or.inl ⟨by rfl, ?_⟩) (by assumption) ?_
  rotate_left
  · intro w' hSw; (try dsimp only at hSw); first | (go_simp; done) | (go_simp; with_reducible rfl)
  (try simp only [Act.put, List.setIfInBounds_toArray, List.set_cons_zero, List.set_cons_succ])
  refine wpAnyH_take (i := 19) (oi := { dst := some 233, op := Op.fieldAddr 28 (Operand.tmp 20) 1, type := 0, pos := "laws.go:633", after := #[{ on := 15, ground := Ground.guard }], guard := some (15, true) }) (v := ?_) rfl (by kernel_rfl) (by kernel_rfl) (by kernel_rfl) (fun _ _ _ h => h) (Or.inl ⟨by rfl, ?_⟩) (by assumption) ?_
  rotate_left
  · intro w' hSw; (try dsimp only at hSw); first | (go_simp; done) | (go_simp; with_reducible rfl)
  (try simp only [Act.put, List.setIfInBounds_toArray, List.set_cons_zero, List.set_cons_succ])
  refine wpAnyH_take (i := 20) (oi := { dst := some 234, op := Op.load 22 (Operand.tmp 233), type := 22, pos := "laws.go:633", after := #[{ on := 19, ground := Ground.data }, { on := 15, ground := Ground.guard }], guard := some (15, true) }) (v := ?_) rfl (by kernel_rfl) (by kernel_rfl) (by kernel_rfl) (fun _ _ _ h => h) (Or.inl ⟨by rfl, ?_⟩) (by assumption) ?_
  rotate_left
  · intro w' hSw; (try dsimp only at hSw); first | (go_simp; done) | (go_simp; with_reducible rfl)
  (try simp only [Act.put, List.setIfInBounds_toArray, List.set_cons_zero, List.set_cons_succ])
  refine wpAnyH_take (i := 21) (oi := { dst := some 235, op := Op.call { callee := Callee.builtin Builtin.len, args := #[Operand.tmp 234], argTypes := #[22] }, type := 3, pos := "laws.go:633", after := #[{ on := 20, ground := Ground.data }, { on := 15, ground := Ground.guard }], guard := some (15, true) }) (v := ?_) rfl (by kernel_rfl) (by kernel_rfl) (by kernel_rfl) (fun _ _ _ h => h) (Or.inl ⟨by rfl, ?_⟩) (by assumption) ?_
  rotate_left
  · intro w' hSw; (try dsimp only at hSw); first | (go_simp; done) | (go_simp; with_reducible rfl)
  (try simp only [Act.put, List.setIfInBounds_toArray, List.set_cons_zero, List.set_cons_succ])
  refine wpAnyH_take (i := 22) (oi := { dst := some 236, op := Op.binOp BinOp.eql 3 (Operand.tmp 235) (Operand.const (Value.int IntKind.i64 0)) 3, type := 4, pos := "laws.go:633", after := #[{ on := 21, ground := Ground.data }, { on := 15, ground := Ground.guard }], guard := some (15, true) }) (v := ?_) rfl (by kernel_rfl) (by kernel_rfl) (by kernel_rfl) (fun _ _ _ h => h) (Or.inl ⟨by rfl, ?_⟩) (by assumption) ?_
  rotate_left
  · intro w' hSw; (try dsimp only at hSw); first | (go_simp; done) | (go_simp; with_reducible rfl)
  (try simp only [Act.put, List.setIfInBounds_toArray, List.set_cons_zero, List.set_cons_succ])
  refine wpAnyH_ready (rs := [18]) (by kernel_rfl) (by simp) ?_
  refine AllReadyH.cons (o := { dst := some 232, op := Op.call { callee := Callee.value (Operand.func 19), args := #[Operand.tmp 230, Operand.tmp 231], argTypes := #[3, 28] }, type := 4, pos := "laws.go:633", after := #[{ on := 16, ground := Ground.data }, { on := 17, ground := Ground.data }, { on := 15, ground := Ground.chain }, { on := 15, ground := Ground.guard }], guard := some (15, true) }) rfl (fun K hK => ?_) AllReadyH.nil
  go_simp
  refine (iVerV zw HX.out (H_x.out.on BB.out) HY2.out (show bulk ra + m2.length + bulk rc ≤ 1200000 by omega)).mono ?_
  rintro e wn4 ⟨rfl, hb⟩
  replace BB := Lib.hid (BB.out.trans (hb.mono BB.out.size))
  clear hb
  (try go_wp2_with fail)
  clear hHeld
  refine hK.out _ _ ?_ (fun hHeld => ?_)
  · (try dsimp only); exact ⟨kc K0_t.out BB.out, kc K1_t.out BB.out, kc K2_t.out BB.out, kc K3_t.out BB.out, kc K4_t.out BB.out, kc K0_u.out BB.out, kc K1_u.out BB.out, kc K2_u.out BB.out, kc K3_u.out BB.out, kc K4_u.out BB.out, kc K0_v.out BB.out, kc K1_v.out BB.out, kc K2_v.out BB.out, kc K3_v.out BB.out, kc K4_v.out BB.out, kc K0_x.out BB.out, kc K1_x.out BB.out, kc K2_x.out BB.out, kc K3_x.out BB.out, kc K4_x.out BB.out⟩
  clear hK K
  (try simp only [Act.put, List.setIfInBounds_toArray, List.set_cons_zero, List.set_cons_succ])
  refine wpAnyH_take (i := 23) (oi := { dst := some 237, op := Op.binOp BinOp.eql 4 (Operand.tmp 232) (Operand.tmp 236) 4, type := 4, pos := "laws.go:633", after := #[{ on := 18, ground := Ground.data }, { on := 22, ground := Ground.data }, { on := 15, ground := Ground.guard }], guard := some (15, true) }) (v := ?_) rfl (by kernel_rfl) (by kernel_rfl) (by kernel_rfl) (fun _ _ _ h => h) (Or.inl ⟨by rfl, ?_⟩) (by assumption) ?_
  rotate_left
  · intro w' hSw; (try dsimp only at hSw); first | (go_simp; done) | (go_simp; with_reducible rfl)
  (try simp only [Act.put, List.setIfInBounds_toArray, List.set_cons_zero, List.set_cons_succ])
  refine wpAnyH_take (i := 24) (oi := { dst := some 238, op := Op.pick (Operand.tmp 229) (Operand.tmp 237) (Operand.const (Value.bool false)), type := 4, pos := "laws.go:633", after := #[{ on := 15, ground := Ground.data }, { on := 23, ground := Ground.data }], guard := none }) (v := ?_) rfl (by kernel_rfl) (by kernel_rfl) (by kernel_rfl) (fun _ _ _ h => h) (Or.inl ⟨by rfl, ?_⟩) (by assumption) ?_
  rotate_left
  · intro w' hSw; (try dsimp only at hSw); first | (go_simp; done) | (go_simp; with_reducible rfl)
  (try simp only [Act.put, List.setIfInBounds_toArray, List.set_cons_zero, List.set_cons_succ])
  refine wpAnyH_take (i := 25) (oi := { dst := some 2, op := Op.assign (Operand.tmp 238), type := 4, pos := "laws.go:633", after := #[{ on := 24, ground := Ground.data }, { on := 18, ground := Ground.chain }, { on := 0, ground := Ground.phase }, { on := 1, ground := Ground.phase }, { on := 2, ground := Ground.phase }, { on := 3, ground := Ground.phase }, { on := 4, ground := Ground.phase }, { on := 5, ground := Ground.phase }, { on := 6, ground := Ground.phase }, { on := 7, ground := Ground.phase }, { on := 8, ground := Ground.phase }, { on := 9, ground := Ground.phase }, { on := 10, ground := Ground.phase }, { on := 11, ground := Ground.phase }, { on := 12, ground := Ground.phase }, { on := 13, ground := Ground.phase }, { on := 14, ground := Ground.phase }, { on := 15, ground := Ground.phase }, { on := 16, ground := Ground.phase }, { on := 17, ground := Ground.phase }, { on := 18, ground := Ground.phase }, { on := 19, ground := Ground.phase }, { on := 20, ground := Ground.phase }, { on := 21, ground := Ground.phase }, { on := 22, ground := Ground.phase }, { on := 23, ground := Ground.phase }, { on := 24, ground := Ground.phase }], guard := none }) (v := ?_) rfl (by kernel_rfl) (by kernel_rfl) (by kernel_rfl) (fun _ _ _ h => h) (Or.inl ⟨by rfl, ?_⟩) (by assumption) ?_
  rotate_left
  · intro w' hSw; (try dsimp only at hSw); first | (go_simp; done) | (go_simp; with_reducible rfl)
  (try simp only [Act.put, List.setIfInBounds_toArray, List.set_cons_zero, List.set_cons_succ])
  refine wpAnyH_done (by kernel_rfl) ?_ _
  exact NoPanic.normal (HQ.out _ _ _ _ _ _ _ _ _ _ _ _ _ _ _ _ _ _ _ _ _ _ _ _ _  _  BB.out)

end Go.Proofs.YtbooamnlocobfaaGreat.Row
