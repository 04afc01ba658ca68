/- A great region of a drawn law: whatever order is drawn, its last value is false. No conditions. -/
import Derived.WalkKit
import Derived.Deep.RegionHeld3
import Derived.Test.YtnhfdgjbbjogmaaNameTop
namespace Go.Proofs.Ytnhfdgjbbjogmaa.Row
open Go.ChangeShapes Go.WideShapes Go.ChangeAt Go.RowKit Go.Instr
set_option linter.unusedVariables false

set_option maxRecDepth 100000 in
set_option maxHeartbeats 40000000 in
theorem reg13t {Q : Exit → Act → World → Prop} {v0 v1 v2 v3 v5 v6 v9 v10 v15 v16 v17 v18 v19 v20 v21 v22 v23 v24 v25 v26 v27 v28 v29 v30 v31 v32 v33 v34 v35 v36 v37 v38 v39 v40 v41 v42 v43 v44 v45 v46 v47 v48 v49 v50 v51 v52 v53 v54 v55 v56 v57 v58 v59 v60 v61 v62 v63 v64 v65 v66 v67 v68 v69 v70 v71 v72 v73 v74 v75 v76 v77 v78 v79 v80 v81 v82 v83 v84 v85 v86 v87 v88 v89 v90 v91 v92 v93 v94 v95 v96 v97 v98 v99 v100 v101 v102 v103 v104 v105 v106 v107 v108 v109 v110 v111 v112 v113 v114 v115 v116 v117 v118 v119 v120 v121 v122 v123 v124 v125 v126 v127 v128 v129 v130 v131 v132 v133 v134 v135 v136 v137 v138 v139 v140 v141 v142 v143 v144 v145 v146 v147 v148 v149 v150 v151 v152 v153 v154 v155 v156 v157 v158 v159 v160 v161 v162 v163 v164 v165 v166 v167 v168 v169 v170 v171 v172 v173 v174 : Value} {w : World} {ba bb bp by_ : Nat} {k ca : Int} {s : ByteArray} {x_a : Option Addr} {n_a c_a : Nat} {ma : List ByteArray} {x_b : Option Addr} {n_b c_b : Nat} {mb : List ByteArray} {x_p : Option Addr} {n_p c_p : Nat} {mp : List ByteArray} {x_y : Option Addr} {n_y c_y : Nat} {my : List ByteArray} (C_a : Hid (Ret.Box w ba (.slice x_a n_a c_a) 26)) (H_a : Hid (Holds Value.string w (.slice x_a n_a c_a) ma)) (C_b : Hid (Ret.Box w bb (.slice x_b n_b c_b) 26)) (H_b : Hid (Holds Value.string w (.slice x_b n_b c_b) mb)) (C_p : Hid (Ret.Box w bp (.slice x_p n_p c_p) 26)) (H_p : Hid (Holds Value.string w (.slice x_p n_p c_p) mp)) (C_y : Hid (Ret.Box w by_ (.slice x_y n_y c_y) 26)) (H_y : Hid (Holds Value.string w (.slice x_y n_y c_y) my)) (la : ma.length ≤ 1000) (lb : mb.length ≤ 1000) (lp : mp.length ≤ 1000) (tl : (trN mp k).length ≤ mp.length) (yy : bulk my ≤ 60)
    (H15 : Hid (eqB ma mb = (ca == 0))) (HCA : Hid (cmpL ma mb = ca)) (HCB : Hid (cmpL mb ma = -ca)) (hw1 : IntKind.i64.wrap ca = ca) (hw2 : IntKind.i64.wrap (-(-ca)) = ca) (HHP : Hid (hpB mp (trN mp k) = true)) (HFM : Hid (fmtS my = s))
    (hQ : ∀ (u117 u118 u119 u120 u121 u122 u123 u124 u125 u126 u127 u128 u129 u130 u131 u132 u133 u134 u135 u136 u137 u138 u139 u140 u141 u142 u143 u144 u145 u146 u147 u148 u149 u150 : Value) (wx : World), Below w.heap.size w wx → Q .normal ⟨#[v0, v1, v2, v3, .string s, v5, v6, .pointer (some ⟨by_, 0, none⟩), .bool true, v9, v10, .pointer (some ⟨ba, 0, none⟩), .pointer (some ⟨bb, 0, none⟩), .pointer (some ⟨bp, 0, none⟩), .int .i64 k, v15, v16, v17, v18, v19, v20, v21, v22, v23, v24, v25, v26, v27, v28, v29, v30, v31, v32, v33, v34, v35, v36, v37, v38, v39, v40, v41, v42, v43, v44, v45, v46, v47, v48, v49, v50, v51, v52, v53, v54, v55, v56, v57, v58, v59, v60, v61, v62, v63, v64, v65, v66, v67, v68, v69, v70, v71, v72, v73, v74, v75, v76, v77, v78, v79, v80, v81, v82, v83, v84, v85, v86, v87, v88, v89, v90, v91, v92, v93, v94, v95, v96, v97, v98, v99, v100, v101, v102, v103, v104, v105, v106, v107, v108, v109, v110, v111, v112, v113, v114, v115, v116, u117, u118, u119, u120, u121, u122, u123, u124, u125, u126, u127, u128, u129, u130, u131, u132, u133, u134, u135, u136, u137, u138, u139, u140, u141, u142, u143, u144, u145, u146, u147, u148, u149, u150, .bool false, v152, v153, v154, v155, v156, v157, v158, v159, v160, v161, v162, v163, v164, v165, v166, v167, v168, v169, v170, v171, v172, v173, v174], []⟩ wx) :
    (Code.region 13 #[{ dst := some 117, op := Op.load 26 (Operand.tmp 11), type := 26, pos := "laws.go:475", after := #[], guard := none },
      { dst := some 118, op := Op.load 26 (Operand.tmp 12), type := 26, pos := "laws.go:475", after := #[], guard := none },
      { dst := some 119, op := Op.call { callee := Callee.value (Operand.func 25), args := #[Operand.tmp 117, Operand.tmp 118], argTypes := #[26, 26] }, type := 3, pos := "laws.go:475", after := #[{ on := 0, ground := Ground.data }, { on := 1, ground := Ground.data }], guard := none },
      { dst := some 120, op := Op.load 26 (Operand.tmp 12), type := 26, pos := "laws.go:475", after := #[], guard := none },
      { dst := some 121, op := Op.load 26 (Operand.tmp 11), type := 26, pos := "laws.go:475", after := #[], guard := none },
      { dst := some 122, op := Op.call { callee := Callee.value (Operand.func 25), args := #[Operand.tmp 120, Operand.tmp 121], argTypes := #[26, 26] }, type := 3, pos := "laws.go:475", after := #[{ on := 3, ground := Ground.data }, { on := 4, ground := Ground.data }, { on := 2, ground := Ground.chain }], guard := none },
      { dst := some 123, op := Op.unOp UnOp.neg 3 (Operand.tmp 122), type := 3, pos := "laws.go:475", after := #[{ on := 5, ground := Ground.data }], guard := none },
      { dst := some 124, op := Op.binOp BinOp.neq 3 (Operand.tmp 119) (Operand.tmp 123) 3, type := 4, pos := "laws.go:475", after := #[{ on := 2, ground := Ground.data }, { on := 6, ground := Ground.data }], guard := none },
      { dst := some 125, op := Op.move (Operand.tmp 124), type := 4, pos := "laws.go:475", after := #[{ on := 7, ground := Ground.data }, { on := 5, ground := Ground.chain }], guard := none },
      { dst := some 126, op := Op.load 26 (Operand.tmp 11), type := 26, pos := "laws.go:475", after := #[{ on := 8, ground := Ground.guard }], guard := some (8, false) },
      { dst := some 127, op := Op.load 26 (Operand.tmp 12), type := 26, pos := "laws.go:475", after := #[{ on := 8, ground := Ground.guard }], guard := some (8, false) },
      { dst := some 128, op := Op.call { callee := Callee.value (Operand.func 25), args := #[Operand.tmp 126, Operand.tmp 127], argTypes := #[26, 26] }, type := 3, pos := "laws.go:475", after := #[{ on := 9, ground := Ground.data }, { on := 10, ground := Ground.data }, { on := 8, ground := Ground.chain }, { on := 8, ground := Ground.guard }], guard := some (8, false) },
      { dst := some 129, op := Op.binOp BinOp.eql 3 (Operand.tmp 128) (Operand.const (Value.int IntKind.i64 0)) 3, type := 4, pos := "laws.go:475", after := #[{ on := 11, ground := Ground.data }, { on := 8, ground := Ground.guard }], guard := some (8, false) },
      { dst := some 130, op := Op.load 26 (Operand.tmp 11), type := 26, pos := "laws.go:475", after := #[{ on := 8, ground := Ground.guard }], guard := some (8, false) },
      { dst := some 131, op := Op.load 26 (Operand.tmp 12), type := 26, pos := "laws.go:475", after := #[{ on := 8, ground := Ground.guard }], guard := some (8, false) },
      { dst := some 132, op := Op.call { callee := Callee.value (Operand.func 24), args := #[Operand.tmp 130, Operand.tmp 131], argTypes := #[26, 26] }, type := 4, pos := "laws.go:475", after := #[{ on := 13, ground := Ground.data }, { on := 14, ground := Ground.data }, { on := 11, ground := Ground.chain }, { on := 8, ground := Ground.guard }], guard := some (8, false) },
      { dst := some 133, op := Op.binOp BinOp.neq 4 (Operand.tmp 129) (Operand.tmp 132) 4, type := 4, pos := "laws.go:475", after := #[{ on := 12, ground := Ground.data }, { on := 15, ground := Ground.data }, { on := 8, ground := Ground.guard }], guard := some (8, false) },
      { dst := some 134, op := Op.pick (Operand.tmp 125) (Operand.const (Value.bool true)) (Operand.tmp 133), type := 4, pos := "laws.go:475", after := #[{ on := 8, ground := Ground.data }, { on := 16, ground := Ground.data }], guard := none },
      { dst := some 135, op := Op.move (Operand.tmp 134), type := 4, pos := "laws.go:475", after := #[{ on := 17, ground := Ground.data }, { on := 15, ground := Ground.chain }], guard := none },
      { dst := some 136, op := Op.load 26 (Operand.tmp 13), type := 26, pos := "laws.go:475", after := #[{ on := 18, ground := Ground.guard }], guard := some (18, false) },
      { dst := some 137, op := Op.load 26 (Operand.tmp 13), type := 26, pos := "laws.go:475", after := #[{ on := 18, ground := Ground.guard }], guard := some (18, false) },
      { dst := some 138, op := Op.move (Operand.tmp 14), type := 3, pos := "laws.go:475", after := #[{ on := 18, ground := Ground.guard }], guard := some (18, false) },
      { dst := some 139, op := Op.call { callee := Callee.value (Operand.func 27), args := #[Operand.tmp 137, Operand.tmp 138], argTypes := #[26, 3] }, type := 26, pos := "laws.go:475", after := #[{ on := 20, ground := Ground.data }, { on := 21, ground := Ground.data }, { on := 18, ground := Ground.chain }, { on := 18, ground := Ground.guard }], guard := some (18, false) },
      { dst := some 140, op := Op.call { callee := Callee.value (Operand.func 33), args := #[Operand.tmp 136, Operand.tmp 139], argTypes := #[26, 26] }, type := 4, pos := "laws.go:475", after := #[{ on := 19, ground := Ground.data }, { on := 22, ground := Ground.data }, { on := 22, ground := Ground.chain }, { on := 18, ground := Ground.guard }], guard := some (18, false) },
      { dst := some 141, op := Op.unOp UnOp.not 4 (Operand.tmp 140), type := 4, pos := "laws.go:475", after := #[{ on := 23, ground := Ground.data }, { on := 18, ground := Ground.guard }], guard := some (18, false) },
      { dst := some 142, op := Op.pick (Operand.tmp 135) (Operand.const (Value.bool true)) (Operand.tmp 141), type := 4, pos := "laws.go:475", after := #[{ on := 18, ground := Ground.data }, { on := 24, ground := Ground.data }], guard := none },
      { dst := some 143, op := Op.move (Operand.tmp 142), type := 4, pos := "laws.go:475", after := #[{ on := 25, ground := Ground.data }, { on := 23, ground := Ground.chain }], guard := none },
      { dst := some 144, op := Op.move (Operand.tmp 8), type := 4, pos := "laws.go:475", after := #[{ on := 26, ground := Ground.guard }], guard := some (26, false) },
      { dst := some 145, op := Op.move (Operand.tmp 144), type := 4, pos := "laws.go:475", after := #[{ on := 27, ground := Ground.data }, { on := 26, ground := Ground.chain }, { on := 26, ground := Ground.guard }], guard := some (26, false) },
      { dst := some 146, op := Op.load 26 (Operand.tmp 7), type := 26, pos := "laws.go:475", after := #[{ on := 28, ground := Ground.guard }], guard := some (28, true) },
      { dst := some 147, op := Op.call { callee := Callee.value (Operand.func 18), args := #[Operand.tmp 146], argTypes := #[26] }, type := 9, pos := "laws.go:475", after := #[{ on := 29, ground := Ground.data }, { on := 28, ground := Ground.chain }, { on := 28, ground := Ground.guard }], guard := some (28, true) },
      { dst := some 148, op := Op.move (Operand.tmp 4), type := 9, pos := "laws.go:475", after := #[{ on := 28, ground := Ground.guard }], guard := some (28, true) },
      { dst := some 149, op := Op.binOp BinOp.neq 9 (Operand.tmp 147) (Operand.tmp 148) 9, type := 4, pos := "laws.go:475", after := #[{ on := 30, ground := Ground.data }, { on := 31, ground := Ground.data }, { on := 28, ground := Ground.guard }], guard := some (28, true) },
      { dst := some 150, op := Op.pick (Operand.tmp 145) (Operand.tmp 149) (Operand.const (Value.bool false)), type := 4, pos := "laws.go:475", after := #[{ on := 28, ground := Ground.data }, { on := 32, ground := Ground.data }, { on := 26, ground := Ground.guard }], guard := some (26, false) },
      { dst := some 151, op := Op.pick (Operand.tmp 143) (Operand.const (Value.bool true)) (Operand.tmp 150), type := 4, pos := "laws.go:475", after := #[{ on := 26, ground := Ground.data }, { on := 33, ground := Ground.data }], guard := none }] true).wp Try.prog Q ⟨#[v0, v1, v2, v3, .string s, v5, v6, .pointer (some ⟨by_, 0, none⟩), .bool true, v9, v10, .pointer (some ⟨ba, 0, none⟩), .pointer (some ⟨bb, 0, none⟩), .pointer (some ⟨bp, 0, none⟩), .int .i64 k, v15, v16, v17, v18, v19, v20, v21, v22, v23, v24, v25, v26, v27, v28, v29, v30, v31, v32, v33, v34, v35, v36, v37, v38, v39, v40, v41, v42, v43, v44, v45, v46, v47, v48, v49, v50, v51, v52, v53, v54, v55, v56, v57, v58, v59, v60, v61, v62, v63, v64, v65, v66, v67, v68, v69, v70, v71, v72, v73, v74, v75, v76, v77, v78, v79, v80, v81, v82, v83, v84, v85, v86, v87, v88, v89, v90, v91, v92, v93, v94, v95, v96, v97, v98, v99, v100, v101, v102, v103, v104, v105, v106, v107, v108, v109, v110, v111, v112, v113, v114, v115, v116, v117, v118, v119, v120, v121, v122, v123, v124, v125, v126, v127, v128, v129, v130, v131, v132, v133, v134, v135, v136, v137, v138, v139, v140, v141, v142, v143, v144, v145, v146, v147, v148, v149, v150, v151, v152, v153, v154, v155, v156, v157, v158, v159, v160, v161, v162, v163, v164, v165, v166, v167, v168, v169, v170, v171, v172, v173, v174], []⟩ w := by
  have HQ := Lib.hid hQ; clear hQ
  have hdr : Below w.heap.size w w.drew := (Below.refl _ _).drew
  have Cd_a := Lib.hid (C_a.out.on hdr)
  have Cd_b := Lib.hid (C_b.out.on hdr)
  have Cd_p := Lib.hid (C_p.out.on hdr)
  have Cd_y := Lib.hid (C_y.out.on hdr)
  have Hd_a := Lib.hid (H_a.out.on hdr)
  have Hd_b := Lib.hid (H_b.out.on hdr)
  have Hd_p := Lib.hid (H_p.out.on hdr)
  have Hd_y := Lib.hid (H_y.out.on hdr)
  have BB := Lib.hid hdr; clear hdr
  have hss : (s.toList == s.toList) = true := by simp
  refine wp_region_noPanic ?_
  refine wp_region_held_drew (S := (fun w' => w'.cell? ⟨ba, 0, none⟩ = some (.slice x_a n_a c_a) ∧ w'.cell? ⟨bb, 0, none⟩ = some (.slice x_b n_b c_b) ∧ w'.cell? ⟨bp, 0, none⟩ = some (.slice x_p n_p c_p) ∧ w'.cell? ⟨by_, 0, none⟩ = some (.slice x_y n_y c_y))) (by kernel_rfl) ?_ (fun hHeld => ?_)
  · exact ⟨Cd_a.out.cell, Cd_b.out.cell, Cd_p.out.cell, Cd_y.out.cell⟩
  refine wpAnyH_take (i := 0) (oi := { dst := some 117, op := Op.load 26 (Operand.tmp 11), type := 26, pos := "laws.go:475", after := #[], guard := none }) (v := ?_) rfl (by kernel_rfl) (by kernel_rfl) (by kernel_rfl) (fun _ _ _ h => h) (Or.inl ⟨by rfl, ?_⟩) (by assumption) ?_
  rotate_left
  · intro w' hSw; (try dsimp only at hSw); first | (go_simp; done) | (go_simp; with_reducible rfl)
  (try simp only [Act.put, List.setIfInBounds_toArray, List.set_cons_zero, List.set_cons_succ])
  refine wpAnyH_take (i := 1) (oi := { dst := some 118, op := Op.load 26 (Operand.tmp 12), type := 26, pos := "laws.go:475", after := #[], guard := none }) (v := ?_) rfl (by kernel_rfl) (by kernel_rfl) (by kernel_rfl) (fun _ _ _ h => h) (Or.inl ⟨by rfl, ?_⟩) (by assumption) ?_
  rotate_left
  · intro w' hSw; (try dsimp only at hSw); first | (go_simp; done) | (go_simp; with_reducible rfl)
  (try simp only [Act.put, List.setIfInBounds_toArray, List.set_cons_zero, List.set_cons_succ])
  refine wpAnyH_take (i := 3) (oi := { dst := some 120, op := Op.load 26 (Operand.tmp 12), type := 26, pos := "laws.go:475", after := #[], guard := none }) (v := ?_) rfl (by kernel_rfl) (by kernel_rfl) (by kernel_rfl) (fun _ _ _ h => h) (Or.inl ⟨by rfl, ?_⟩) (by assumption) ?_
  rotate_left
  · intro w' hSw; (try dsimp only at hSw); first | (go_simp; done) | (go_simp; with_reducible rfl)
  (try simp only [Act.put, List.setIfInBounds_toArray, List.set_cons_zero, List.set_cons_succ])
  refine wpAnyH_take (i := 4) (oi := { dst := some 121, op := Op.load 26 (Operand.tmp 11), type := 26, pos := "laws.go:475", after := #[], guard := none }) (v := ?_) rfl (by kernel_rfl) (by kernel_rfl) (by kernel_rfl) (fun _ _ _ h => h) (Or.inl ⟨by rfl, ?_⟩) (by assumption) ?_
  rotate_left
  · intro w' hSw; (try dsimp only at hSw); first | (go_simp; done) | (go_simp; with_reducible rfl)
  (try simp only [Act.put, List.setIfInBounds_toArray, List.set_cons_zero, List.set_cons_succ])
  refine wpAnyH_ready (rs := [2]) (by kernel_rfl) (by simp) ?_
  refine AllReadyH.cons (o := { dst := some 119, op := Op.call { callee := Callee.value (Operand.func 25), args := #[Operand.tmp 117, Operand.tmp 118], argTypes := #[26, 26] }, type := 3, pos := "laws.go:475", after := #[{ on := 0, ground := Ground.data }, { on := 1, ground := Ground.data }], guard := none }) rfl (fun K hK => ?_) AllReadyH.nil
  go_simp
  refine (cmpV ca Hd_a.out Hd_b.out (by omega) (by omega) HCA.out).mono ?_
  rintro e wx ⟨rfl, hb⟩
  replace Cd_a := Lib.hid (Cd_a.out.on hb)
  replace Cd_b := Lib.hid (Cd_b.out.on hb)
  replace Cd_p := Lib.hid (Cd_p.out.on hb)
  replace Cd_y := Lib.hid (Cd_y.out.on hb)
  replace Hd_a := Lib.hid (Hd_a.out.on hb)
  replace Hd_b := Lib.hid (Hd_b.out.on hb)
  replace Hd_p := Lib.hid (Hd_p.out.on hb)
  replace Hd_y := Lib.hid (Hd_y.out.on hb)
  replace BB := Lib.hid (BB.out.trans (hb.mono BB.out.size)); clear hb
  (try go_wp2_with fail)
  clear hHeld
  refine hK.out _ _ ?_ (fun hHeld => ?_)
  · (try dsimp only); exact ⟨Cd_a.out.cell, Cd_b.out.cell, Cd_p.out.cell, Cd_y.out.cell⟩
  clear hK K
  (try simp only [Act.put, List.setIfInBounds_toArray, List.set_cons_zero, List.set_cons_succ])
  refine wpAnyH_ready (rs := [5]) (by kernel_rfl) (by simp) ?_
  refine AllReadyH.cons (o := { dst := some 122, op := Op.call { callee := Callee.value (Operand.func 25), args := #[Operand.tmp 120, Operand.tmp 121], argTypes := #[26, 26] }, type := 3, pos := "laws.go:475", after := #[{ on := 3, ground := Ground.data }, { on := 4, ground := Ground.data }, { on := 2, ground := Ground.chain }], guard := none }) rfl (fun K hK => ?_) AllReadyH.nil
  go_simp
  refine (cmpV (-ca) Hd_b.out Hd_a.out (by omega) (by omega) HCB.out).mono ?_
  rintro e wx ⟨rfl, hb⟩
  replace Cd_a := Lib.hid (Cd_a.out.on hb)
  replace Cd_b := Lib.hid (Cd_b.out.on hb)
  replace Cd_p := Lib.hid (Cd_p.out.on hb)
  replace Cd_y := Lib.hid (Cd_y.out.on hb)
  replace Hd_a := Lib.hid (Hd_a.out.on hb)
  replace Hd_b := Lib.hid (Hd_b.out.on hb)
  replace Hd_p := Lib.hid (Hd_p.out.on hb)
  replace Hd_y := Lib.hid (Hd_y.out.on hb)
  replace BB := Lib.hid (BB.out.trans (hb.mono BB.out.size)); clear hb
  (try go_wp2_with fail)
  clear hHeld
  refine hK.out _ _ ?_ (fun hHeld => ?_)
  · (try dsimp only); exact ⟨Cd_a.out.cell, Cd_b.out.cell, Cd_p.out.cell, Cd_y.out.cell⟩
  clear hK K
  (try simp only [Act.put, List.setIfInBounds_toArray, List.set_cons_zero, List.set_cons_succ])
  refine wpAnyH_take (i := 6) (oi := { dst := some 123, op := Op.unOp UnOp.neg 3 (Operand.tmp 122), type := 3, pos := "laws.go:475", after := #[{ on := 5, ground := Ground.data }], guard := none }) (v := ?_) rfl (by kernel_rfl) (by kernel_rfl) (by kernel_rfl) (fun _ _ _ h => h) (Or.inl ⟨by rfl, ?_⟩) (by assumption) ?_
  rotate_left
  · intro w' hSw; (try dsimp only at hSw); first | (go_simp; done) | (go_simp; with_reducible rfl)
  (try simp only [Act.put, List.setIfInBounds_toArray, List.set_cons_zero, List.set_cons_succ])
  refine wpAnyH_take (i := 7) (oi := { dst := some 124, op := Op.binOp BinOp.neq 3 (Operand.tmp 119) (Operand.tmp 123) 3, type := 4, pos := "laws.go:475", after := #[{ on := 2, ground := Ground.data }, { on := 6, ground := Ground.data }], guard := none }) (v := ?_) rfl (by kernel_rfl) (by kernel_rfl) (by kernel_rfl) (fun _ _ _ h => h) (Or.inl ⟨by rfl, ?_⟩) (by assumption) ?_
  rotate_left
  · intro w' hSw; (try dsimp only at hSw); first | (go_simp; done) | (go_simp; with_reducible rfl)
  (try simp only [Act.put, List.setIfInBounds_toArray, List.set_cons_zero, List.set_cons_succ])
  refine wpAnyH_take (i := 8) (oi := { dst := some 125, op := Op.move (Operand.tmp 124), type := 4, pos := "laws.go:475", after := #[{ on := 7, ground := Ground.data }, { on := 5, ground := Ground.chain }], guard := none }) (v := ?_) rfl (by kernel_rfl) (by kernel_rfl) (by kernel_rfl) (fun _ _ _ h => h) (Or.inl ⟨by rfl, ?_⟩) (by assumption) ?_
  rotate_left
  · intro w' hSw; (try dsimp only at hSw); first | (go_simp; done) | (go_simp; with_reducible rfl)
  (try simp only [Act.put, List.setIfInBounds_toArray, List.set_cons_zero, List.set_cons_succ])
  refine wpAnyH_take (i := 9) (oi := { dst := some 126, op := Op.load 26 (Operand.tmp 11), type := 26, pos := "laws.go:475", after := #[{ on := 8, ground := Ground.guard }], guard := some (8, false) }) (v := ?_) rfl (by kernel_rfl) (by kernel_rfl) (by kernel_rfl) (fun _ _ _ h => h) (Or.inl ⟨by rfl, ?_⟩) (by assumption) ?_
  rotate_left
  · intro w' hSw; (try dsimp only at hSw); first | (go_simp; done) | (go_simp; with_reducible rfl)
  (try simp only [Act.put, List.setIfInBounds_toArray, List.set_cons_zero, List.set_cons_succ])
  refine wpAnyH_take (i := 10) (oi := { dst := some 127, op := Op.load 26 (Operand.tmp 12), type := 26, pos := "laws.go:475", after := #[{ on := 8, ground := Ground.guard }], guard := some (8, false) }) (v := ?_) rfl (by kernel_rfl) (by kernel_rfl) (by kernel_rfl) (fun _ _ _ h => h) (Or.inl ⟨by rfl, ?_⟩) (by assumption) ?_
  rotate_left
  · intro w' hSw; (try dsimp only at hSw); first | (go_simp; done) | (go_simp; with_reducible rfl)
  (try simp only [Act.put, List.setIfInBounds_toArray, List.set_cons_zero, List.set_cons_succ])
  refine wpAnyH_take (i := 13) (oi := { dst := some 130, op := Op.load 26 (Operand.tmp 11), type := 26, pos := "laws.go:475", after := #[{ on := 8, ground := Ground.guard }], guard := some (8, false) }) (v := ?_) rfl (by kernel_rfl) (by kernel_rfl) (by kernel_rfl) (fun _ _ _ h => h) (Or.inl ⟨by rfl, ?_⟩) (by assumption) ?_
  rotate_left
  · intro w' hSw; (try dsimp only at hSw); first | (go_simp; done) | (go_simp; with_reducible rfl)
  (try simp only [Act.put, List.setIfInBounds_toArray, List.set_cons_zero, List.set_cons_succ])
  refine wpAnyH_take (i := 14) (oi := { dst := some 131, op := Op.load 26 (Operand.tmp 12), type := 26, pos := "laws.go:475", after := #[{ on := 8, ground := Ground.guard }], guard := some (8, false) }) (v := ?_) rfl (by kernel_rfl) (by kernel_rfl) (by kernel_rfl) (fun _ _ _ h => h) (Or.inl ⟨by rfl, ?_⟩) (by assumption) ?_
  rotate_left
  · intro w' hSw; (try dsimp only at hSw); first | (go_simp; done) | (go_simp; with_reducible rfl)
  (try simp only [Act.put, List.setIfInBounds_toArray, List.set_cons_zero, List.set_cons_succ])
  refine wpAnyH_ready (rs := [11]) (by kernel_rfl) (by simp) ?_
  refine AllReadyH.cons (o := { dst := some 128, op := Op.call { callee := Callee.value (Operand.func 25), args := #[Operand.tmp 126, Operand.tmp 127], argTypes := #[26, 26] }, type := 3, pos := "laws.go:475", after := #[{ on := 9, ground := Ground.data }, { on := 10, ground := Ground.data }, { on := 8, ground := Ground.chain }, { on := 8, ground := Ground.guard }], guard := some (8, false) }) rfl (fun K hK => ?_) AllReadyH.nil
  go_simp
  refine (cmpV ca Hd_a.out Hd_b.out (by omega) (by omega) HCA.out).mono ?_
  rintro e wx ⟨rfl, hb⟩
  replace Cd_a := Lib.hid (Cd_a.out.on hb)
  replace Cd_b := Lib.hid (Cd_b.out.on hb)
  replace Cd_p := Lib.hid (Cd_p.out.on hb)
  replace Cd_y := Lib.hid (Cd_y.out.on hb)
  replace Hd_a := Lib.hid (Hd_a.out.on hb)
  replace Hd_b := Lib.hid (Hd_b.out.on hb)
  replace Hd_p := Lib.hid (Hd_p.out.on hb)
  replace Hd_y := Lib.hid (Hd_y.out.on hb)
  replace BB := Lib.hid (BB.out.trans (hb.mono BB.out.size)); clear hb
  (try go_wp2_with fail)
  clear hHeld
  refine hK.out _ _ ?_ (fun hHeld => ?_)
  · (try dsimp only); exact ⟨Cd_a.out.cell, Cd_b.out.cell, Cd_p.out.cell, Cd_y.out.cell⟩
  clear hK K
  (try simp only [Act.put, List.setIfInBounds_toArray, List.set_cons_zero, List.set_cons_succ])
  refine wpAnyH_take (i := 12) (oi := { dst := some 129, op := Op.binOp BinOp.eql 3 (Operand.tmp 128) (Operand.const (Value.int IntKind.i64 0)) 3, type := 4, pos := "laws.go:475", after := #[{ on := 11, ground := Ground.data }, { on := 8, ground := Ground.guard }], guard := some (8, false) }) (v := ?_) rfl (by kernel_rfl) (by kernel_rfl) (by kernel_rfl) (fun _ _ _ h => h) (Or.inl ⟨by rfl, ?_⟩) (by assumption) ?_
  rotate_left
  · intro w' hSw; (try dsimp only at hSw); first | (go_simp; done) | (go_simp; with_reducible rfl)
  (try simp only [Act.put, List.setIfInBounds_toArray, List.set_cons_zero, List.set_cons_succ])
  refine wpAnyH_ready (rs := [15]) (by kernel_rfl) (by simp) ?_
  refine AllReadyH.cons (o := { dst := some 132, op := Op.call { callee := Callee.value (Operand.func 24), args := #[Operand.tmp 130, Operand.tmp 131], argTypes := #[26, 26] }, type := 4, pos := "laws.go:475", after := #[{ on := 13, ground := Ground.data }, { on := 14, ground := Ground.data }, { on := 11, ground := Ground.chain }, { on := 8, ground := Ground.guard }], guard := some (8, false) }) rfl (fun K hK => ?_) AllReadyH.nil
  go_simp
  refine (sameV (ca == 0) Hd_a.out Hd_b.out (by omega) (by omega) H15.out).mono ?_
  rintro e wx ⟨rfl, hb⟩
  replace Cd_a := Lib.hid (Cd_a.out.on hb)
  replace Cd_b := Lib.hid (Cd_b.out.on hb)
  replace Cd_p := Lib.hid (Cd_p.out.on hb)
  replace Cd_y := Lib.hid (Cd_y.out.on hb)
  replace Hd_a := Lib.hid (Hd_a.out.on hb)
  replace Hd_b := Lib.hid (Hd_b.out.on hb)
  replace Hd_p := Lib.hid (Hd_p.out.on hb)
  replace Hd_y := Lib.hid (Hd_y.out.on hb)
  replace BB := Lib.hid (BB.out.trans (hb.mono BB.out.size)); clear hb
  (try go_wp2_with fail)
  clear hHeld
  refine hK.out _ _ ?_ (fun hHeld => ?_)
  · (try dsimp only); exact ⟨Cd_a.out.cell, Cd_b.out.cell, Cd_p.out.cell, Cd_y.out.cell⟩
  clear hK K
  (try simp only [Act.put, List.setIfInBounds_toArray, List.set_cons_zero, List.set_cons_succ])
  refine wpAnyH_take (i := 16) (oi := { dst := some 133, op := Op.binOp BinOp.neq 4 (Operand.tmp 129) (Operand.tmp 132) 4, type := 4, pos := "laws.go:475", after := #[{ on := 12, ground := Ground.data }, { on := 15, ground := Ground.data }, { on := 8, ground := Ground.guard }], guard := some (8, false) }) (v := ?_) rfl (by kernel_rfl) (by kernel_rfl) (by kernel_rfl) (fun _ _ _ h => h) (Or.inl ⟨by rfl, ?_⟩) (by assumption) ?_
  rotate_left
  · intro w' hSw; (try dsimp only at hSw); first | (go_simp; done) | (go_simp; with_reducible rfl)
  (try simp only [Act.put, List.setIfInBounds_toArray, List.set_cons_zero, List.set_cons_succ])
  refine wpAnyH_take (i := 17) (oi := { dst := some 134, op := Op.pick (Operand.tmp 125) (Operand.const (Value.bool true)) (Operand.tmp 133), type := 4, pos := "laws.go:475", after := #[{ on := 8, ground := Ground.data }, { on := 16, ground := Ground.data }], guard := none }) (v := ?_) rfl (by kernel_rfl) (by kernel_rfl) (by kernel_rfl) (fun _ _ _ h => h) (Or.inl ⟨by rfl, ?_⟩) (by assumption) ?_
  rotate_left
  · intro w' hSw; (try dsimp only at hSw); first | (go_simp; done) | (go_simp; with_reducible rfl)
  (try simp only [Act.put, List.setIfInBounds_toArray, List.set_cons_zero, List.set_cons_succ])
  refine wpAnyH_take (i := 18) (oi := { dst := some 135, op := Op.move (Operand.tmp 134), type := 4, pos := "laws.go:475", after := #[{ on := 17, ground := Ground.data }, { on := 15, ground := Ground.chain }], guard := none }) (v := ?_) rfl (by kernel_rfl) (by kernel_rfl) (by kernel_rfl) (fun _ _ _ h => h) (Or.inl ⟨by rfl, ?_⟩) (by assumption) ?_
  rotate_left
  · intro w' hSw; (try dsimp only at hSw); first | (go_simp; done) | (go_simp; with_reducible rfl)
  (try simp only [Act.put, List.setIfInBounds_toArray, List.set_cons_zero, List.set_cons_succ])
  refine wpAnyH_take (i := 19) (oi := { dst := some 136, op := Op.load 26 (Operand.tmp 13), type := 26, pos := "laws.go:475", after := #[{ on := 18, ground := Ground.guard }], guard := some (18, false) }) (v := ?_) rfl (by kernel_rfl) (by kernel_rfl) (by kernel_rfl) (fun _ _ _ h => h) (Or.inl ⟨by rfl, ?_⟩) (by assumption) ?_
  rotate_left
  · intro w' hSw; (try dsimp only at hSw); first | (go_simp; done) | (go_simp; with_reducible rfl)
  (try simp only [Act.put, List.setIfInBounds_toArray, List.set_cons_zero, List.set_cons_succ])
  refine wpAnyH_take (i := 20) (oi := { dst := some 137, op := Op.load 26 (Operand.tmp 13), type := 26, pos := "laws.go:475", after := #[{ on := 18, ground := Ground.guard }], guard := some (18, false) }) (v := ?_) rfl (by kernel_rfl) (by kernel_rfl) (by kernel_rfl) (fun _ _ _ h => h) (Or.inl ⟨by rfl, ?_⟩) (by assumption) ?_
  rotate_left
  · intro w' hSw; (try dsimp only at hSw); first | (go_simp; done) | (go_simp; with_reducible rfl)
  (try simp only [Act.put, List.setIfInBounds_toArray, List.set_cons_zero, List.set_cons_succ])
  refine wpAnyH_take (i := 21) (oi := { dst := some 138, op := Op.move (Operand.tmp 14), type := 3, pos := "laws.go:475", after := #[{ on := 18, ground := Ground.guard }], guard := some (18, false) }) (v := ?_) rfl (by kernel_rfl) (by kernel_rfl) (by kernel_rfl) (fun _ _ _ h => h) (Or.inl ⟨by rfl, ?_⟩) (by assumption) ?_
  rotate_left
  · intro w' hSw; (try dsimp only at hSw); first | (go_simp; done) | (go_simp; with_reducible rfl)
  (try simp only [Act.put, List.setIfInBounds_toArray, List.set_cons_zero, List.set_cons_succ])
  refine wpAnyH_ready (rs := [22]) (by kernel_rfl) (by simp) ?_
  refine AllReadyH.cons (o := { dst := some 139, op := Op.call { callee := Callee.value (Operand.func 27), args := #[Operand.tmp 137, Operand.tmp 138], argTypes := #[26, 3] }, type := 26, pos := "laws.go:475", after := #[{ on := 20, ground := Ground.data }, { on := 21, ground := Ground.data }, { on := 18, ground := Ground.chain }, { on := 18, ground := Ground.guard }], guard := some (18, false) }) rfl (fun K hK => ?_) AllReadyH.nil
  go_simp
  refine (implTruncate _ mp k _ Hd_p.out (by omega)).mono ?_
  rintro e wx ⟨u8_, rfl, ho_t, hb⟩
  obtain ⟨x_t, n_t, c_t, rfl, -, -, ho_t⟩ := ho_t.shapeN
  have H_t := Lib.hid ho_t.holds; clear ho_t
  replace Cd_a := Lib.hid (Cd_a.out.on hb)
  replace Cd_b := Lib.hid (Cd_b.out.on hb)
  replace Cd_p := Lib.hid (Cd_p.out.on hb)
  replace Cd_y := Lib.hid (Cd_y.out.on hb)
  replace Hd_a := Lib.hid (Hd_a.out.on hb)
  replace Hd_b := Lib.hid (Hd_b.out.on hb)
  replace Hd_p := Lib.hid (Hd_p.out.on hb)
  replace Hd_y := Lib.hid (Hd_y.out.on hb)
  replace BB := Lib.hid (BB.out.trans (hb.mono BB.out.size)); clear hb
  (try go_wp2_with fail)
  clear hHeld
  refine hK.out _ _ ?_ (fun hHeld => ?_)
  · (try dsimp only); exact ⟨Cd_a.out.cell, Cd_b.out.cell, Cd_p.out.cell, Cd_y.out.cell⟩
  clear hK K
  (try simp only [Act.put, List.setIfInBounds_toArray, List.set_cons_zero, List.set_cons_succ])
  refine wpAnyH_ready (rs := [23]) (by kernel_rfl) (by simp) ?_
  refine AllReadyH.cons (o := { dst := some 140, op := Op.call { callee := Callee.value (Operand.func 33), args := #[Operand.tmp 136, Operand.tmp 139], argTypes := #[26, 26] }, type := 4, pos := "laws.go:475", after := #[{ on := 19, ground := Ground.data }, { on := 22, ground := Ground.data }, { on := 22, ground := Ground.chain }, { on := 18, ground := Ground.guard }], guard := some (18, false) }) rfl (fun K hK => ?_) AllReadyH.nil
  go_simp
  refine (hpV true Hd_p.out H_t.out (by omega) (by omega) HHP.out).mono ?_
  rintro e wx ⟨rfl, hb⟩
  replace Cd_a := Lib.hid (Cd_a.out.on hb)
  replace Cd_b := Lib.hid (Cd_b.out.on hb)
  replace Cd_p := Lib.hid (Cd_p.out.on hb)
  replace Cd_y := Lib.hid (Cd_y.out.on hb)
  replace Hd_a := Lib.hid (Hd_a.out.on hb)
  replace Hd_b := Lib.hid (Hd_b.out.on hb)
  replace Hd_p := Lib.hid (Hd_p.out.on hb)
  replace Hd_y := Lib.hid (Hd_y.out.on hb)
  replace BB := Lib.hid (BB.out.trans (hb.mono BB.out.size)); clear hb
  (try go_wp2_with fail)
  clear hHeld
  refine hK.out _ _ ?_ (fun hHeld => ?_)
  · (try dsimp only); exact ⟨Cd_a.out.cell, Cd_b.out.cell, Cd_p.out.cell, Cd_y.out.cell⟩
  clear hK K
  (try simp only [Act.put, List.setIfInBounds_toArray, List.set_cons_zero, List.set_cons_succ])
  refine wpAnyH_take (i := 24) (oi := { dst := some 141, op := Op.unOp UnOp.not 4 (Operand.tmp 140), type := 4, pos := "laws.go:475", after := #[{ on := 23, ground := Ground.data }, { on := 18, ground := Ground.guard }], guard := some (18, false) }) (v := ?_) rfl (by kernel_rfl) (by kernel_rfl) (by kernel_rfl) (fun _ _ _ h => h) (Or.inl ⟨by rfl, ?_⟩) (by assumption) ?_
  rotate_left
  · intro w' hSw; (try dsimp only at hSw); first | (go_simp; done) | (go_simp; with_reducible rfl)
  (try simp only [Act.put, List.setIfInBounds_toArray, List.set_cons_zero, List.set_cons_succ])
  refine wpAnyH_take (i := 25) (oi := { dst := some 142, op := Op.pick (Operand.tmp 135) (Operand.const (Value.bool true)) (Operand.tmp 141), type := 4, pos := "laws.go:475", after := #[{ on := 18, ground := Ground.data }, { on := 24, ground := Ground.data }], guard := none }) (v := ?_) rfl (by kernel_rfl) (by kernel_rfl) (by kernel_rfl) (fun _ _ _ h => h) (Or.inl ⟨by rfl, ?_⟩) (by assumption) ?_
  rotate_left
  · intro w' hSw; (try dsimp only at hSw); first | (go_simp; done) | (go_simp; with_reducible rfl)
  (try simp only [Act.put, List.setIfInBounds_toArray, List.set_cons_zero, List.set_cons_succ])
  refine wpAnyH_take (i := 26) (oi := { dst := some 143, op := Op.move (Operand.tmp 142), type := 4, pos := "laws.go:475", after := #[{ on := 25, ground := Ground.data }, { on := 23, ground := Ground.chain }], guard := none }) (v := ?_) rfl (by kernel_rfl) (by kernel_rfl) (by kernel_rfl) (fun _ _ _ h => h) (Or.inl ⟨by rfl, ?_⟩) (by assumption) ?_
  rotate_left
  · intro w' hSw; (try dsimp only at hSw); first | (go_simp; done) | (go_simp; with_reducible rfl)
  (try simp only [Act.put, List.setIfInBounds_toArray, List.set_cons_zero, List.set_cons_succ])
  refine wpAnyH_take (i := 27) (oi := { dst := some 144, op := Op.move (Operand.tmp 8), type := 4, pos := "laws.go:475", after := #[{ on := 26, ground := Ground.guard }], guard := some (26, false) }) (v := ?_) rfl (by kernel_rfl) (by kernel_rfl) (by kernel_rfl) (fun _ _ _ h => h) (Or.inl ⟨by rfl, ?_⟩) (by assumption) ?_
  rotate_left
  · intro w' hSw; (try dsimp only at hSw); first | (go_simp; done) | (go_simp; with_reducible rfl)
  (try simp only [Act.put, List.setIfInBounds_toArray, List.set_cons_zero, List.set_cons_succ])
  refine wpAnyH_take (i := 28) (oi := { dst := some 145, op := Op.move (Operand.tmp 144), type := 4, pos := "laws.go:475", after := #[{ on := 27, ground := Ground.data }, { on := 26, ground := Ground.chain }, { on := 26, ground := Ground.guard }], guard := some (26, false) }) (v := ?_) rfl (by kernel_rfl) (by kernel_rfl) (by kernel_rfl) (fun _ _ _ h => h) (Or.inl ⟨by rfl, ?_⟩) (by assumption) ?_
  rotate_left
  · intro w' hSw; (try dsimp only at hSw); first | (go_simp; done) | (go_simp; with_reducible rfl)
  (try simp only [Act.put, List.setIfInBounds_toArray, List.set_cons_zero, List.set_cons_succ])
  refine wpAnyH_take (i := 29) (oi := { dst := some 146, op := Op.load 26 (Operand.tmp 7), type := 26, pos := "laws.go:475", after := #[{ on := 28, ground := Ground.guard }], guard := some (28, true) }) (v := ?_) rfl (by kernel_rfl) (by kernel_rfl) (by kernel_rfl) (fun _ _ _ h => h) (Or.inl ⟨by rfl, ?_⟩) (by assumption) ?_
  rotate_left
  · intro w' hSw; (try dsimp only at hSw); first | (go_simp; done) | (go_simp; with_reducible rfl)
  (try simp only [Act.put, List.setIfInBounds_toArray, List.set_cons_zero, List.set_cons_succ])
  refine wpAnyH_take (i := 31) (oi := { dst := some 148, op := Op.move (Operand.tmp 4), type := 9, pos := "laws.go:475", after := #[{ on := 28, ground := Ground.guard }], guard := some (28, true) }) (v := ?_) rfl (by kernel_rfl) (by kernel_rfl) (by kernel_rfl) (fun _ _ _ h => h) (Or.inl ⟨by rfl, ?_⟩) (by assumption) ?_
  rotate_left
  · intro w' hSw; (try dsimp only at hSw); first | (go_simp; done) | (go_simp; with_reducible rfl)
  (try simp only [Act.put, List.setIfInBounds_toArray, List.set_cons_zero, List.set_cons_succ])
  refine wpAnyH_ready (rs := [30]) (by kernel_rfl) (by simp) ?_
  refine AllReadyH.cons (o := { dst := some 147, op := Op.call { callee := Callee.value (Operand.func 18), args := #[Operand.tmp 146], argTypes := #[26] }, type := 9, pos := "laws.go:475", after := #[{ on := 29, ground := Ground.data }, { on := 28, ground := Ground.chain }, { on := 28, ground := Ground.guard }], guard := some (28, true) }) rfl (fun K hK => ?_) AllReadyH.nil
  go_simp
  refine (fmtV s Hd_y.out (by omega) HFM.out).mono ?_
  rintro e wx ⟨rfl, hb⟩
  replace Cd_a := Lib.hid (Cd_a.out.on hb)
  replace Cd_b := Lib.hid (Cd_b.out.on hb)
  replace Cd_p := Lib.hid (Cd_p.out.on hb)
  replace Cd_y := Lib.hid (Cd_y.out.on hb)
  replace Hd_a := Lib.hid (Hd_a.out.on hb)
  replace Hd_b := Lib.hid (Hd_b.out.on hb)
  replace Hd_p := Lib.hid (Hd_p.out.on hb)
  replace Hd_y := Lib.hid (Hd_y.out.on hb)
  replace BB := Lib.hid (BB.out.trans (hb.mono BB.out.size)); clear hb
  (try go_wp2_with fail)
  clear hHeld
  refine hK.out _ _ ?_ (fun hHeld => ?_)
  · (try dsimp only); exact ⟨Cd_a.out.cell, Cd_b.out.cell, Cd_p.out.cell, Cd_y.out.cell⟩
  clear hK K
  (try simp only [Act.put, List.setIfInBounds_toArray, List.set_cons_zero, List.set_cons_succ])
  refine wpAnyH_take (i := 32) (oi := { dst := some 149, op := Op.binOp BinOp.neq 9 (Operand.tmp 147) (Operand.tmp 148) 9, type := 4, pos := "laws.go:475", after := #[{ on := 30, ground := Ground.data }, { on := 31, ground := Ground.data }, { on := 28, ground := Ground.guard }], guard := some (28, true) }) (v := ?_) rfl (by kernel_rfl) (by kernel_rfl) (by kernel_rfl) (fun _ _ _ h => h) (Or.inl ⟨by rfl, ?_⟩) (by assumption) ?_
  rotate_left
  · intro w' hSw; (try dsimp only at hSw); first | (go_simp; done) | (go_simp; with_reducible rfl)
  (try simp only [Act.put, List.setIfInBounds_toArray, List.set_cons_zero, List.set_cons_succ])
  refine wpAnyH_take (i := 33) (oi := { dst := some 150, op := Op.pick (Operand.tmp 145) (Operand.tmp 149) (Operand.const (Value.bool false)), type := 4, pos := "laws.go:475", after := #[{ on := 28, ground := Ground.data }, { on := 32, ground := Ground.data }, { on := 26, ground := Ground.guard }], guard := some (26, false) }) (v := ?_) rfl (by kernel_rfl) (by kernel_rfl) (by kernel_rfl) (fun _ _ _ h => h) (Or.inl ⟨by rfl, ?_⟩) (by assumption) ?_
  rotate_left
  · intro w' hSw; (try dsimp only at hSw); first | (go_simp; done) | (go_simp; with_reducible rfl)
  (try simp only [Act.put, List.setIfInBounds_toArray, List.set_cons_zero, List.set_cons_succ])
  refine wpAnyH_take (i := 34) (oi := { dst := some 151, op := Op.pick (Operand.tmp 143) (Operand.const (Value.bool true)) (Operand.tmp 150), type := 4, pos := "laws.go:475", after := #[{ on := 26, ground := Ground.data }, { on := 33, ground := Ground.data }], guard := none }) (v := ?_) rfl (by kernel_rfl) (by kernel_rfl) (by kernel_rfl) (fun _ _ _ h => h) (Or.inl ⟨by rfl, ?_⟩) (by assumption) ?_
  rotate_left
  · intro w' hSw; (try dsimp only at hSw); first | (go_simp; done) | (go_simp; with_reducible rfl)
  (try simp only [Act.put, List.setIfInBounds_toArray, List.set_cons_zero, List.set_cons_succ])
  refine wpAnyH_done (by kernel_rfl) ?_ _
  exact NoPanic.normal (HQ.out _ _ _ _ _ _ _ _ _ _ _ _ _ _ _ _ _ _ _ _ _ _ _ _ _ _ _ _ _ _ _ _ _ _ _ BB.out)

end Go.Proofs.Ytnhfdgjbbjogmaa.Row
