/- Regions of the drawn law on tables: whatever order is drawn, the last value is the one that the law asks. No conditions. -/
import Derived.WalkKit
import Derived.Deep.RegionHeld3
import Derived.Test.YtihcebjbkifbpaaTabTop
namespace Go.Proofs.Ytihcebjbkifbpaa.Row
open Go.ChangeShapes Go.WideShapes Go.ChangeAt Go.RowKit Go.Instr
set_option linter.unusedVariables false
set_option maxRecDepth 100000

set_option maxRecDepth 100000 in
set_option maxHeartbeats 4000000 in
theorem regT14 {Q : Exit → Act → World → Prop} {v0 v1 v2 v4 v5 v18 v19 v25 v26 v27 v28 v29 v30 v31 v32 v33 v34 v35 v36 v37 v38 v39 v40 v41 v42 v43 v44 v45 v46 v47 v48 v49 v50 v51 v52 v53 v54 v55 v56 v57 v58 v59 v60 v61 v62 v63 v64 v65 v66 v67 v68 v69 v70 v71 v72 v73 v74 v75 v76 v77 v78 v79 v80 v81 v82 v83 v84 v85 v86 v87 v88 v89 v90 v91 v92 v93 v94 v95 v96 v97 v98 v99 v100 v101 v102 v103 v104 v105 v106 v107 v108 v109 v110 v111 v112 v113 v114 v115 v116 v117 v118 v119 v120 v121 v122 v123 v124 v125 v126 v127 v128 v129 v130 v131 v132 v133 v134 v135 v136 v137 v138 v139 v140 v141 v142 v143 v144 v145 v146 v147 v148 v149 v150 v151 v152 v153 v154 v155 v156 v157 v158 v159 v160 v161 v162 v163 v164 v165 v166 v167 v168 v169 v170 v171 v172 v173 v174 v175 v176 v177 v178 v179 v180 v181 v182 v183 v184 v185 v186 v187 v188 v189 v190 v191 v192 v193 v194 v195 v196 v197 v198 v199 v200 v201 v202 v203 v204 v205 v206 v207 v208 v209 v210 v211 v212 v213 v214 v215 v216 v217 v218 v219 v220 v221 v222 v223 v224 v225 v226 v227 v228 v229 v230 v231 v232 : Value} {w : World} {bm be bp : Nat} {ok g q z : Bool} {f k : Int} {x_m : Option Addr} {n_m c_m : Nat} {x_e : Option Addr} {n_e c_e : Nat} {x_p : Option Addr} {n_p c_p : Nat} {x_l : Option Addr} {n_l c_l : Nat} {x_x : Option Addr} {n_x c_x : Nat} {x_y : Option Addr} {n_y c_y : Nat} {x_t : Option Addr} {n_t c_t : Nat} {x_d : Option Addr} {n_d c_d : Nat} {x_u : Option Addr} {n_u c_u : Nat} {x_a : Option Addr} {n_a c_a : Nat} {x_b : Option Addr} {n_b c_b : Nat} {mm me mp : List ByteArray} {tl tx tt td tu ta tb : List (List ByteArray × Int)} (C_m : Hid (Ret.Box w bm (.slice x_m n_m c_m) 27)) (H_m : Hid (Holds Value.string w (.slice x_m n_m c_m) mm)) (C_e : Hid (Ret.Box w be (.slice x_e n_e c_e) 27)) (H_e : Hid (Holds Value.string w (.slice x_e n_e c_e) me)) (C_p : Hid (Ret.Box w bp (.slice x_p n_p c_p) 27)) (H_p : Hid (Holds Value.string w (.slice x_p n_p c_p) mp)) (H_l : Hid (TabHolds w (.slice x_l n_l c_l) tl)) (H_x : Hid (TabHolds w (.slice x_x n_x c_x) tx)) (H_y : Hid (TabHolds w (.slice x_y n_y c_y) tx)) (H_t : Hid (TabHolds w (.slice x_t n_t c_t) tt)) (H_d : Hid (TabHolds w (.slice x_d n_d c_d) td)) (H_u : Hid (TabHolds w (.slice x_u n_u c_u) tu)) (H_a : Hid (TabHolds w (.slice x_a n_a c_a) ta)) (H_b : Hid (TabHolds w (.slice x_b n_b c_b) tb)) (S_l : Hid (smT tl)) (L_l : tl.length ≤ 100) (S_x : Hid (smT tx)) (L_x : tx.length ≤ 100) (S_t : Hid (smT tt)) (L_t : tt.length ≤ 100) (S_d : Hid (smT td)) (L_d : td.length ≤ 100) (S_u : Hid (smT tu)) (L_u : tu.length ≤ 100) (S_a : Hid (smT ta)) (L_a : ta.length ≤ 100) (S_b : Hid (smT tb)) (L_b : tb.length ≤ 100)
    (HK : Hid (lpT tt mm = k)) (HQQ : Hid (eqT ta tb = q)) (HZ : Hid (validT tl = z)) (M_m : mm.length ≤ 9000) (M_e : me.length ≤ 9000) (M_p : mp.length ≤ 9000)
    (hQ : ∀ (u92 u93 u94 u95 u96 u97 u98 u99 u100 u101 u102 u103 u104 u105 u106 u107 u108 u109 u110 u111 u112 u113 u114 u115 u116 u117 u118 u119 u120 u121 u122 u123 u124 u125 u126 u127 u128 u129 u130 u131 u132 u133 u134 u135 u136 u137 u138 u139 u140 u141 u142 u143 u144 u145 u146 u147 u148 u149 u150 u151 u152 : Value) (wx : World), Below w.heap.size w wx → Q .normal ⟨#[v0, v1, v2, .slice x_l n_l c_l, v4, v5, .slice x_x n_x c_x, .bool ok, .slice x_y n_y c_y, .bool ok, .slice x_t n_t c_t, .pointer (some ⟨bm, 0, none⟩), .slice x_d n_d c_d, .pointer (some ⟨be, 0, none⟩), .slice x_u n_u c_u, .pointer (some ⟨bp, 0, none⟩), .slice x_a n_a c_a, .slice x_b n_b c_b, v18, v19, .int .i64 f, .bool g, .int .i64 f, .bool g, .int .i64 k, v25, v26, v27, v28, v29, v30, v31, v32, v33, v34, v35, v36, v37, v38, v39, v40, v41, v42, v43, v44, v45, v46, v47, v48, v49, v50, v51, v52, v53, v54, v55, v56, v57, v58, v59, v60, v61, v62, v63, v64, v65, v66, v67, v68, v69, v70, v71, v72, v73, v74, v75, v76, v77, v78, v79, v80, v81, v82, v83, v84, v85, v86, v87, v88, v89, v90, v91, u92, u93, u94, u95, u96, u97, u98, u99, u100, u101, u102, u103, u104, u105, u106, u107, u108, u109, u110, u111, u112, u113, u114, u115, u116, u117, u118, u119, u120, u121, u122, u123, u124, u125, u126, u127, u128, u129, u130, u131, u132, u133, u134, u135, u136, u137, u138, u139, u140, u141, u142, u143, u144, u145, u146, u147, u148, u149, u150, u151, u152, .bool false, v154, v155, v156, v157, v158, v159, v160, v161, v162, v163, v164, v165, v166, v167, v168, v169, v170, v171, v172, v173, v174, v175, v176, v177, v178, v179, v180, v181, v182, v183, v184, v185, v186, v187, v188, v189, v190, v191, v192, v193, v194, v195, v196, v197, v198, v199, v200, v201, v202, v203, v204, v205, v206, v207, v208, v209, v210, v211, v212, v213, v214, v215, v216, v217, v218, v219, v220, v221, v222, v223, v224, v225, v226, v227, v228, v229, v230, v231, v232], []⟩ wx) :
    (Code.region 14 #[{ dst := some 92, op := Op.move (Operand.tmp 6), type := 24, pos := "laws.go:548", after := #[], guard := none },
      { dst := some 93, op := Op.move (Operand.tmp 8), type := 24, pos := "laws.go:548", after := #[], guard := none },
      { dst := some 94, op := Op.call { callee := Callee.value (Operand.func 23), args := #[Operand.tmp 92, Operand.tmp 93], argTypes := #[24, 24] }, type := 4, pos := "laws.go:548", after := #[{ on := 0, ground := Ground.data }, { on := 1, ground := Ground.data }], guard := none },
      { dst := some 95, op := Op.unOp UnOp.not 4 (Operand.tmp 94), type := 4, pos := "laws.go:548", after := #[{ on := 2, ground := Ground.data }], guard := none },
      { dst := some 96, op := Op.move (Operand.tmp 95), type := 4, pos := "laws.go:548", after := #[{ on := 3, ground := Ground.data }, { on := 2, ground := Ground.chain }], guard := none },
      { dst := some 97, op := Op.move (Operand.tmp 7), type := 4, pos := "laws.go:548", after := #[{ on := 4, ground := Ground.guard }], guard := some (4, false) },
      { dst := some 98, op := Op.move (Operand.tmp 9), type := 4, pos := "laws.go:548", after := #[{ on := 4, ground := Ground.guard }], guard := some (4, false) },
      { dst := some 99, op := Op.binOp BinOp.neq 4 (Operand.tmp 97) (Operand.tmp 98) 4, type := 4, pos := "laws.go:548", after := #[{ on := 5, ground := Ground.data }, { on := 6, ground := Ground.data }, { on := 4, ground := Ground.guard }], guard := some (4, false) },
      { dst := some 100, op := Op.pick (Operand.tmp 96) (Operand.const (Value.bool true)) (Operand.tmp 99), type := 4, pos := "laws.go:548", after := #[{ on := 4, ground := Ground.data }, { on := 7, ground := Ground.data }], guard := none },
      { dst := some 101, op := Op.move (Operand.tmp 100), type := 4, pos := "laws.go:548", after := #[{ on := 8, ground := Ground.data }, { on := 4, ground := Ground.chain }], guard := none },
      { dst := some 102, op := Op.move (Operand.tmp 24), type := 3, pos := "laws.go:548", after := #[{ on := 9, ground := Ground.guard }], guard := some (9, false) },
      { dst := some 103, op := Op.move (Operand.tmp 10), type := 24, pos := "laws.go:548", after := #[{ on := 9, ground := Ground.guard }], guard := some (9, false) },
      { dst := some 104, op := Op.load 27 (Operand.tmp 11), type := 27, pos := "laws.go:548", after := #[{ on := 9, ground := Ground.guard }], guard := some (9, false) },
      { dst := some 105, op := Op.call { callee := Callee.value (Operand.func 24), args := #[Operand.tmp 103, Operand.tmp 104], argTypes := #[24, 27] }, type := 3, pos := "laws.go:548", after := #[{ on := 11, ground := Ground.data }, { on := 12, ground := Ground.data }, { on := 9, ground := Ground.chain }, { on := 9, ground := Ground.guard }], guard := some (9, false) },
      { dst := some 106, op := Op.binOp BinOp.neq 3 (Operand.tmp 102) (Operand.tmp 105) 3, type := 4, pos := "laws.go:548", after := #[{ on := 10, ground := Ground.data }, { on := 13, ground := Ground.data }, { on := 9, ground := Ground.guard }], guard := some (9, false) },
      { dst := some 107, op := Op.pick (Operand.tmp 101) (Operand.const (Value.bool true)) (Operand.tmp 106), type := 4, pos := "laws.go:548", after := #[{ on := 9, ground := Ground.data }, { on := 14, ground := Ground.data }], guard := none },
      { dst := some 108, op := Op.move (Operand.tmp 107), type := 4, pos := "laws.go:548", after := #[{ on := 15, ground := Ground.data }, { on := 13, ground := Ground.chain }], guard := none },
      { dst := some 109, op := Op.move (Operand.tmp 12), type := 24, pos := "laws.go:548", after := #[{ on := 16, ground := Ground.guard }], guard := some (16, false) },
      { dst := some 110, op := Op.load 27 (Operand.tmp 13), type := 27, pos := "laws.go:548", after := #[{ on := 16, ground := Ground.guard }], guard := some (16, false) },
      { dst := some 111, op := Op.call { callee := Callee.value (Operand.func 25), args := #[Operand.tmp 109, Operand.tmp 110], argTypes := #[24, 27] }, type := 24, pos := "laws.go:548", after := #[{ on := 17, ground := Ground.data }, { on := 18, ground := Ground.data }, { on := 16, ground := Ground.chain }, { on := 16, ground := Ground.guard }], guard := some (16, false) },
      { dst := some 112, op := Op.move (Operand.tmp 12), type := 24, pos := "laws.go:548", after := #[{ on := 16, ground := Ground.guard }], guard := some (16, false) },
      { dst := some 113, op := Op.load 27 (Operand.tmp 13), type := 27, pos := "laws.go:548", after := #[{ on := 16, ground := Ground.guard }], guard := some (16, false) },
      { dst := some 114, op := Op.call { callee := Callee.value (Operand.func 26), args := #[Operand.tmp 112, Operand.tmp 113], argTypes := #[24, 27] }, type := 24, pos := "laws.go:548", after := #[{ on := 20, ground := Ground.data }, { on := 21, ground := Ground.data }, { on := 19, ground := Ground.chain }, { on := 16, ground := Ground.guard }], guard := some (16, false) },
      { dst := some 115, op := Op.call { callee := Callee.value (Operand.func 23), args := #[Operand.tmp 111, Operand.tmp 114], argTypes := #[24, 24] }, type := 4, pos := "laws.go:548", after := #[{ on := 19, ground := Ground.data }, { on := 22, ground := Ground.data }, { on := 22, ground := Ground.chain }, { on := 16, ground := Ground.guard }], guard := some (16, false) },
      { dst := some 116, op := Op.unOp UnOp.not 4 (Operand.tmp 115), type := 4, pos := "laws.go:548", after := #[{ on := 23, ground := Ground.data }, { on := 16, ground := Ground.guard }], guard := some (16, false) },
      { dst := some 117, op := Op.pick (Operand.tmp 108) (Operand.const (Value.bool true)) (Operand.tmp 116), type := 4, pos := "laws.go:548", after := #[{ on := 16, ground := Ground.data }, { on := 24, ground := Ground.data }], guard := none },
      { dst := some 118, op := Op.move (Operand.tmp 117), type := 4, pos := "laws.go:548", after := #[{ on := 25, ground := Ground.data }, { on := 23, ground := Ground.chain }], guard := none },
      { dst := some 119, op := Op.move (Operand.tmp 14), type := 24, pos := "laws.go:548", after := #[{ on := 26, ground := Ground.guard }], guard := some (26, false) },
      { dst := some 120, op := Op.load 27 (Operand.tmp 15), type := 27, pos := "laws.go:548", after := #[{ on := 26, ground := Ground.guard }], guard := some (26, false) },
      { dst := some 121, op := Op.call { callee := Callee.value (Operand.func 27), args := #[Operand.tmp 119, Operand.tmp 120], argTypes := #[24, 27] }, type := 24, pos := "laws.go:548", after := #[{ on := 27, ground := Ground.data }, { on := 28, ground := Ground.data }, { on := 26, ground := Ground.chain }, { on := 26, ground := Ground.guard }], guard := some (26, false) },
      { dst := some 122, op := Op.move (Operand.tmp 14), type := 24, pos := "laws.go:548", after := #[{ on := 26, ground := Ground.guard }], guard := some (26, false) },
      { dst := some 123, op := Op.load 27 (Operand.tmp 15), type := 27, pos := "laws.go:548", after := #[{ on := 26, ground := Ground.guard }], guard := some (26, false) },
      { dst := some 124, op := Op.call { callee := Callee.value (Operand.func 28), args := #[Operand.tmp 122, Operand.tmp 123], argTypes := #[24, 27] }, type := 24, pos := "laws.go:548", after := #[{ on := 30, ground := Ground.data }, { on := 31, ground := Ground.data }, { on := 29, ground := Ground.chain }, { on := 26, ground := Ground.guard }], guard := some (26, false) },
      { dst := some 125, op := Op.call { callee := Callee.value (Operand.func 23), args := #[Operand.tmp 121, Operand.tmp 124], argTypes := #[24, 24] }, type := 4, pos := "laws.go:548", after := #[{ on := 29, ground := Ground.data }, { on := 32, ground := Ground.data }, { on := 32, ground := Ground.chain }, { on := 26, ground := Ground.guard }], guard := some (26, false) },
      { dst := some 126, op := Op.unOp UnOp.not 4 (Operand.tmp 125), type := 4, pos := "laws.go:548", after := #[{ on := 33, ground := Ground.data }, { on := 26, ground := Ground.guard }], guard := some (26, false) },
      { dst := some 127, op := Op.pick (Operand.tmp 118) (Operand.const (Value.bool true)) (Operand.tmp 126), type := 4, pos := "laws.go:548", after := #[{ on := 26, ground := Ground.data }, { on := 34, ground := Ground.data }], guard := none },
      { dst := some 128, op := Op.move (Operand.tmp 127), type := 4, pos := "laws.go:548", after := #[{ on := 35, ground := Ground.data }, { on := 33, ground := Ground.chain }], guard := none },
      { dst := some 129, op := Op.move (Operand.tmp 16), type := 24, pos := "laws.go:548", after := #[{ on := 36, ground := Ground.guard }], guard := some (36, false) },
      { dst := some 130, op := Op.move (Operand.tmp 17), type := 24, pos := "laws.go:548", after := #[{ on := 36, ground := Ground.guard }], guard := some (36, false) },
      { dst := some 131, op := Op.call { callee := Callee.value (Operand.func 29), args := #[Operand.tmp 129, Operand.tmp 130], argTypes := #[24, 24] }, type := 4, pos := "laws.go:548", after := #[{ on := 37, ground := Ground.data }, { on := 38, ground := Ground.data }, { on := 36, ground := Ground.chain }, { on := 36, ground := Ground.guard }], guard := some (36, false) },
      { dst := some 132, op := Op.move (Operand.tmp 16), type := 24, pos := "laws.go:548", after := #[{ on := 36, ground := Ground.guard }], guard := some (36, false) },
      { dst := some 133, op := Op.move (Operand.tmp 17), type := 24, pos := "laws.go:548", after := #[{ on := 36, ground := Ground.guard }], guard := some (36, false) },
      { dst := some 134, op := Op.call { callee := Callee.value (Operand.func 23), args := #[Operand.tmp 132, Operand.tmp 133], argTypes := #[24, 24] }, type := 4, pos := "laws.go:548", after := #[{ on := 40, ground := Ground.data }, { on := 41, ground := Ground.data }, { on := 39, ground := Ground.chain }, { on := 36, ground := Ground.guard }], guard := some (36, false) },
      { dst := some 135, op := Op.binOp BinOp.neq 4 (Operand.tmp 131) (Operand.tmp 134) 4, type := 4, pos := "laws.go:548", after := #[{ on := 39, ground := Ground.data }, { on := 42, ground := Ground.data }, { on := 36, ground := Ground.guard }], guard := some (36, false) },
      { dst := some 136, op := Op.pick (Operand.tmp 128) (Operand.const (Value.bool true)) (Operand.tmp 135), type := 4, pos := "laws.go:548", after := #[{ on := 36, ground := Ground.data }, { on := 43, ground := Ground.data }], guard := none },
      { dst := some 137, op := Op.move (Operand.tmp 136), type := 4, pos := "laws.go:548", after := #[{ on := 44, ground := Ground.data }, { on := 42, ground := Ground.chain }], guard := none },
      { dst := some 138, op := Op.move (Operand.tmp 20), type := 3, pos := "laws.go:548", after := #[{ on := 45, ground := Ground.guard }], guard := some (45, false) },
      { dst := some 139, op := Op.move (Operand.tmp 22), type := 3, pos := "laws.go:548", after := #[{ on := 45, ground := Ground.guard }], guard := some (45, false) },
      { dst := some 140, op := Op.binOp BinOp.neq 3 (Operand.tmp 138) (Operand.tmp 139) 3, type := 4, pos := "laws.go:548", after := #[{ on := 46, ground := Ground.data }, { on := 47, ground := Ground.data }, { on := 45, ground := Ground.guard }], guard := some (45, false) },
      { dst := some 141, op := Op.pick (Operand.tmp 137) (Operand.const (Value.bool true)) (Operand.tmp 140), type := 4, pos := "laws.go:548", after := #[{ on := 45, ground := Ground.data }, { on := 48, ground := Ground.data }], guard := none },
      { dst := some 142, op := Op.move (Operand.tmp 141), type := 4, pos := "laws.go:548", after := #[{ on := 49, ground := Ground.data }, { on := 45, ground := Ground.chain }], guard := none },
      { dst := some 143, op := Op.move (Operand.tmp 21), type := 4, pos := "laws.go:548", after := #[{ on := 50, ground := Ground.guard }], guard := some (50, false) },
      { dst := some 144, op := Op.move (Operand.tmp 23), type := 4, pos := "laws.go:548", after := #[{ on := 50, ground := Ground.guard }], guard := some (50, false) },
      { dst := some 145, op := Op.binOp BinOp.neq 4 (Operand.tmp 143) (Operand.tmp 144) 4, type := 4, pos := "laws.go:548", after := #[{ on := 51, ground := Ground.data }, { on := 52, ground := Ground.data }, { on := 50, ground := Ground.guard }], guard := some (50, false) },
      { dst := some 146, op := Op.pick (Operand.tmp 142) (Operand.const (Value.bool true)) (Operand.tmp 145), type := 4, pos := "laws.go:548", after := #[{ on := 50, ground := Ground.data }, { on := 53, ground := Ground.data }], guard := none },
      { dst := some 147, op := Op.move (Operand.tmp 146), type := 4, pos := "laws.go:548", after := #[{ on := 54, ground := Ground.data }, { on := 50, ground := Ground.chain }], guard := none },
      { dst := some 148, op := Op.move (Operand.tmp 3), type := 24, pos := "laws.go:548", after := #[{ on := 55, ground := Ground.guard }], guard := some (55, false) },
      { dst := some 149, op := Op.call { callee := Callee.value (Operand.func 30), args := #[Operand.tmp 148], argTypes := #[24] }, type := 4, pos := "laws.go:548", after := #[{ on := 56, ground := Ground.data }, { on := 55, ground := Ground.chain }, { on := 55, ground := Ground.guard }], guard := some (55, false) },
      { dst := some 150, op := Op.move (Operand.tmp 3), type := 24, pos := "laws.go:548", after := #[{ on := 55, ground := Ground.guard }], guard := some (55, false) },
      { dst := some 151, op := Op.call { callee := Callee.value (Operand.func 31), args := #[Operand.tmp 150], argTypes := #[24] }, type := 4, pos := "laws.go:548", after := #[{ on := 58, ground := Ground.data }, { on := 57, ground := Ground.chain }, { on := 55, ground := Ground.guard }], guard := some (55, false) },
      { dst := some 152, op := Op.binOp BinOp.neq 4 (Operand.tmp 149) (Operand.tmp 151) 4, type := 4, pos := "laws.go:548", after := #[{ on := 57, ground := Ground.data }, { on := 59, ground := Ground.data }, { on := 55, ground := Ground.guard }], guard := some (55, false) },
      { dst := some 153, op := Op.pick (Operand.tmp 147) (Operand.const (Value.bool true)) (Operand.tmp 152), type := 4, pos := "laws.go:548", after := #[{ on := 55, ground := Ground.data }, { on := 60, ground := Ground.data }], guard := none }] true).wp Try.prog Q ⟨#[v0, v1, v2, .slice x_l n_l c_l, v4, v5, .slice x_x n_x c_x, .bool ok, .slice x_y n_y c_y, .bool ok, .slice x_t n_t c_t, .pointer (some ⟨bm, 0, none⟩), .slice x_d n_d c_d, .pointer (some ⟨be, 0, none⟩), .slice x_u n_u c_u, .pointer (some ⟨bp, 0, none⟩), .slice x_a n_a c_a, .slice x_b n_b c_b, v18, v19, .int .i64 f, .bool g, .int .i64 f, .bool g, .int .i64 k, v25, v26, v27, v28, v29, v30, v31, v32, v33, v34, v35, v36, v37, v38, v39, v40, v41, v42, v43, v44, v45, v46, v47, v48, v49, v50, v51, v52, v53, v54, v55, v56, v57, v58, v59, v60, v61, v62, v63, v64, v65, v66, v67, v68, v69, v70, v71, v72, v73, v74, v75, v76, v77, v78, v79, v80, v81, v82, v83, v84, v85, v86, v87, v88, v89, v90, v91, v92, v93, v94, v95, v96, v97, v98, v99, v100, v101, v102, v103, v104, v105, v106, v107, v108, v109, v110, v111, v112, v113, v114, v115, v116, v117, v118, v119, v120, v121, v122, v123, v124, v125, v126, v127, v128, v129, v130, v131, v132, v133, v134, v135, v136, v137, v138, v139, v140, v141, v142, v143, v144, v145, v146, v147, v148, v149, v150, v151, v152, v153, v154, v155, v156, v157, v158, v159, v160, v161, v162, v163, v164, v165, v166, v167, v168, v169, v170, v171, v172, v173, v174, v175, v176, v177, v178, v179, v180, v181, v182, v183, v184, v185, v186, v187, v188, v189, v190, v191, v192, v193, v194, v195, v196, v197, v198, v199, v200, v201, v202, v203, v204, v205, v206, v207, v208, v209, v210, v211, v212, v213, v214, v215, v216, v217, v218, v219, v220, v221, v222, v223, v224, v225, v226, v227, v228, v229, v230, v231, v232], []⟩ w := by
  have HQ := Lib.hid hQ; clear hQ
  have hdr : Below w.heap.size w w.drew := (Below.refl _ _).drew
  have Cd_m := Lib.hid (C_m.out.on hdr)
  have Cd_e := Lib.hid (C_e.out.on hdr)
  have Cd_p := Lib.hid (C_p.out.on hdr)
  have Hd_m := Lib.hid (H_m.out.on hdr)
  have Hd_e := Lib.hid (H_e.out.on hdr)
  have Hd_p := Lib.hid (H_p.out.on hdr)
  have Hd_l := Lib.hid (H_l.out.on hdr)
  have Hd_x := Lib.hid (H_x.out.on hdr)
  have Hd_y := Lib.hid (H_y.out.on hdr)
  have Hd_t := Lib.hid (H_t.out.on hdr)
  have Hd_d := Lib.hid (H_d.out.on hdr)
  have Hd_u := Lib.hid (H_u.out.on hdr)
  have Hd_a := Lib.hid (H_a.out.on hdr)
  have Hd_b := Lib.hid (H_b.out.on hdr)
  have BB := Lib.hid hdr; clear hdr
  have R_d := rmT_facts (n := me) S_d.out
  have R_u := unT_facts (n := mp) S_u.out
  refine wp_region_noPanic ?_
  refine wp_region_held_drew (S := (fun w' => w'.cell? ⟨bm, 0, none⟩ = some (.slice x_m n_m c_m) ∧ w'.cell? ⟨be, 0, none⟩ = some (.slice x_e n_e c_e) ∧ w'.cell? ⟨bp, 0, none⟩ = some (.slice x_p n_p c_p))) (by kernel_rfl) ?_ (fun hHeld => ?_)
  · exact ⟨Cd_m.out.cell, Cd_e.out.cell, Cd_p.out.cell⟩
  refine wpAnyH_take (i := 0) (oi := { dst := some 92, op := Op.move (Operand.tmp 6), type := 24, pos := "laws.go:548", after := #[], guard := none }) (v := ?_) rfl (by kernel_rfl) (by kernel_rfl) (by kernel_rfl) (fun _ _ _ h => h) (Or.inl ⟨by rfl, ?_⟩) (by assumption) ?_
  rotate_left
  · intro w' hSw; (try dsimp only at hSw); first | (go_simp; done) | (go_simp; with_reducible rfl)
  (try simp only [Act.put, List.setIfInBounds_toArray, List.set_cons_zero, List.set_cons_succ])
  refine wpAnyH_take (i := 1) (oi := { dst := some 93, op := Op.move (Operand.tmp 8), type := 24, pos := "laws.go:548", after := #[], guard := none }) (v := ?_) rfl (by kernel_rfl) (by kernel_rfl) (by kernel_rfl) (fun _ _ _ h => h) (Or.inl ⟨by rfl, ?_⟩) (by assumption) ?_
  rotate_left
  · intro w' hSw; (try dsimp only at hSw); first | (go_simp; done) | (go_simp; with_reducible rfl)
  (try simp only [Act.put, List.setIfInBounds_toArray, List.set_cons_zero, List.set_cons_succ])
  refine wpAnyH_ready (rs := [2]) (by kernel_rfl) (by simp) ?_
  refine AllReadyH.cons (o := { dst := some 94, op := Op.call { callee := Callee.value (Operand.func 23), args := #[Operand.tmp 92, Operand.tmp 93], argTypes := #[24, 24] }, type := 4, pos := "laws.go:548", after := #[{ on := 0, ground := Ground.data }, { on := 1, ground := Ground.data }], guard := none }) rfl (fun K hK => ?_) AllReadyH.nil
  go_simp
  refine (sameRowsT Hd_x.out Hd_y.out (by omega) S_x.out).mono ?_
  rintro e wx ⟨rfl, hb⟩
  replace Cd_m := Lib.hid (Cd_m.out.on hb)
  replace Cd_e := Lib.hid (Cd_e.out.on hb)
  replace Cd_p := Lib.hid (Cd_p.out.on hb)
  replace Hd_m := Lib.hid (Hd_m.out.on hb)
  replace Hd_e := Lib.hid (Hd_e.out.on hb)
  replace Hd_p := Lib.hid (Hd_p.out.on hb)
  replace Hd_l := Lib.hid (Hd_l.out.on hb)
  replace Hd_x := Lib.hid (Hd_x.out.on hb)
  replace Hd_y := Lib.hid (Hd_y.out.on hb)
  replace Hd_t := Lib.hid (Hd_t.out.on hb)
  replace Hd_d := Lib.hid (Hd_d.out.on hb)
  replace Hd_u := Lib.hid (Hd_u.out.on hb)
  replace Hd_a := Lib.hid (Hd_a.out.on hb)
  replace Hd_b := Lib.hid (Hd_b.out.on hb)
  replace BB := Lib.hid (BB.out.trans (hb.mono BB.out.size)); clear hb
  (try go_wp2_with fail)
  clear hHeld
  refine hK.out _ _ ?_ (fun hHeld => ?_)
  · (try dsimp only); exact ⟨Cd_m.out.cell, Cd_e.out.cell, Cd_p.out.cell⟩
  clear hK K
  (try simp only [Act.put, List.setIfInBounds_toArray, List.set_cons_zero, List.set_cons_succ])
  refine wpAnyH_take (i := 3) (oi := { dst := some 95, op := Op.unOp UnOp.not 4 (Operand.tmp 94), type := 4, pos := "laws.go:548", after := #[{ on := 2, ground := Ground.data }], guard := none }) (v := ?_) rfl (by kernel_rfl) (by kernel_rfl) (by kernel_rfl) (fun _ _ _ h => h) (Or.inl ⟨by rfl, ?_⟩) (by assumption) ?_
  rotate_left
  · intro w' hSw; (try dsimp only at hSw); first | (go_simp; done) | (go_simp; with_reducible rfl)
  (try simp only [Act.put, List.setIfInBounds_toArray, List.set_cons_zero, List.set_cons_succ])
  refine wpAnyH_take (i := 4) (oi := { dst := some 96, op := Op.move (Operand.tmp 95), type := 4, pos := "laws.go:548", after := #[{ on := 3, ground := Ground.data }, { on := 2, ground := Ground.chain }], guard := none }) (v := ?_) rfl (by kernel_rfl) (by kernel_rfl) (by kernel_rfl) (fun _ _ _ h => h) (Or.inl ⟨by rfl, ?_⟩) (by assumption) ?_
  rotate_left
  · intro w' hSw; (try dsimp only at hSw); first | (go_simp; done) | (go_simp; with_reducible rfl)
  (try simp only [Act.put, List.setIfInBounds_toArray, List.set_cons_zero, List.set_cons_succ])
  refine wpAnyH_take (i := 5) (oi := { dst := some 97, op := Op.move (Operand.tmp 7), type := 4, pos := "laws.go:548", after := #[{ on := 4, ground := Ground.guard }], guard := some (4, false) }) (v := ?_) rfl (by kernel_rfl) (by kernel_rfl) (by kernel_rfl) (fun _ _ _ h => h) (Or.inl ⟨by rfl, ?_⟩) (by assumption) ?_
  rotate_left
  · intro w' hSw; (try dsimp only at hSw); first | (go_simp; done) | (go_simp; with_reducible rfl)
  (try simp only [Act.put, List.setIfInBounds_toArray, List.set_cons_zero, List.set_cons_succ])
  refine wpAnyH_take (i := 6) (oi := { dst := some 98, op := Op.move (Operand.tmp 9), type := 4, pos := "laws.go:548", after := #[{ on := 4, ground := Ground.guard }], guard := some (4, false) }) (v := ?_) rfl (by kernel_rfl) (by kernel_rfl) (by kernel_rfl) (fun _ _ _ h => h) (Or.inl ⟨by rfl, ?_⟩) (by assumption) ?_
  rotate_left
  · intro w' hSw; (try dsimp only at hSw); first | (go_simp; done) | (go_simp; with_reducible rfl)
  (try simp only [Act.put, List.setIfInBounds_toArray, List.set_cons_zero, List.set_cons_succ])
  refine wpAnyH_take (i := 7) (oi := { dst := some 99, op := Op.binOp BinOp.neq 4 (Operand.tmp 97) (Operand.tmp 98) 4, type := 4, pos := "laws.go:548", after := #[{ on := 5, ground := Ground.data }, { on := 6, ground := Ground.data }, { on := 4, ground := Ground.guard }], guard := some (4, false) }) (v := ?_) rfl (by kernel_rfl) (by kernel_rfl) (by kernel_rfl) (fun _ _ _ h => h) (Or.inl ⟨by rfl, ?_⟩) (by assumption) ?_
  rotate_left
  · intro w' hSw; (try dsimp only at hSw); first | (go_simp; done) | (go_simp; with_reducible rfl)
  (try simp only [Act.put, List.setIfInBounds_toArray, List.set_cons_zero, List.set_cons_succ])
  refine wpAnyH_take (i := 8) (oi := { dst := some 100, op := Op.pick (Operand.tmp 96) (Operand.const (Value.bool true)) (Operand.tmp 99), type := 4, pos := "laws.go:548", after := #[{ on := 4, ground := Ground.data }, { on := 7, ground := Ground.data }], guard := none }) (v := ?_) rfl (by kernel_rfl) (by kernel_rfl) (by kernel_rfl) (fun _ _ _ h => h) (Or.inl ⟨by rfl, ?_⟩) (by assumption) ?_
  rotate_left
  · intro w' hSw; (try dsimp only at hSw); first | (go_simp; done) | (go_simp; with_reducible rfl)
  (try simp only [Act.put, List.setIfInBounds_toArray, List.set_cons_zero, List.set_cons_succ])
  refine wpAnyH_take (i := 9) (oi := { dst := some 101, op := Op.move (Operand.tmp 100), type := 4, pos := "laws.go:548", after := #[{ on := 8, ground := Ground.data }, { on := 4, ground := Ground.chain }], guard := none }) (v := ?_) rfl (by kernel_rfl) (by kernel_rfl) (by kernel_rfl) (fun _ _ _ h => h) (Or.inl ⟨by rfl, ?_⟩) (by assumption) ?_
  rotate_left
  · intro w' hSw; (try dsimp only at hSw); first | (go_simp; done) | (go_simp; with_reducible rfl)
  (try simp only [Act.put, List.setIfInBounds_toArray, List.set_cons_zero, List.set_cons_succ])
  refine wpAnyH_take (i := 10) (oi := { dst := some 102, op := Op.move (Operand.tmp 24), type := 3, pos := "laws.go:548", after := #[{ on := 9, ground := Ground.guard }], guard := some (9, false) }) (v := ?_) rfl (by kernel_rfl) (by kernel_rfl) (by kernel_rfl) (fun _ _ _ h => h) (Or.inl ⟨by rfl, ?_⟩) (by assumption) ?_
  rotate_left
  · intro w' hSw; (try dsimp only at hSw); first | (go_simp; done) | (go_simp; with_reducible rfl)
  (try simp only [Act.put, List.setIfInBounds_toArray, List.set_cons_zero, List.set_cons_succ])
  refine wpAnyH_take (i := 11) (oi := { dst := some 103, op := Op.move (Operand.tmp 10), type := 24, pos := "laws.go:548", after := #[{ on := 9, ground := Ground.guard }], guard := some (9, false) }) (v := ?_) rfl (by kernel_rfl) (by kernel_rfl) (by kernel_rfl) (fun _ _ _ h => h) (Or.inl ⟨by rfl, ?_⟩) (by assumption) ?_
  rotate_left
  · intro w' hSw; (try dsimp only at hSw); first | (go_simp; done) | (go_simp; with_reducible rfl)
  (try simp only [Act.put, List.setIfInBounds_toArray, List.set_cons_zero, List.set_cons_succ])
  refine wpAnyH_take (i := 12) (oi := { dst := some 104, op := Op.load 27 (Operand.tmp 11), type := 27, pos := "laws.go:548", after := #[{ on := 9, ground := Ground.guard }], guard := some (9, false) }) (v := ?_) rfl (by kernel_rfl) (by kernel_rfl) (by kernel_rfl) (fun _ _ _ h => h) (Or.inl ⟨by rfl, ?_⟩) (by assumption) ?_
  rotate_left
  · intro w' hSw; (try dsimp only at hSw); first | (go_simp; done) | (go_simp; with_reducible rfl)
  (try simp only [Act.put, List.setIfInBounds_toArray, List.set_cons_zero, List.set_cons_succ])
  refine wpAnyH_ready (rs := [13]) (by kernel_rfl) (by simp) ?_
  refine AllReadyH.cons (o := { dst := some 105, op := Op.call { callee := Callee.value (Operand.func 24), args := #[Operand.tmp 103, Operand.tmp 104], argTypes := #[24, 27] }, type := 3, pos := "laws.go:548", after := #[{ on := 11, ground := Ground.data }, { on := 12, ground := Ground.data }, { on := 9, ground := Ground.chain }, { on := 9, ground := Ground.guard }], guard := some (9, false) }) rfl (fun K hK => ?_) AllReadyH.nil
  go_simp
  refine (sLpV k HK.out Hd_t.out Hd_m.out (by omega) S_t.out (by omega)).mono ?_
  rintro e wx ⟨rfl, hb⟩
  replace Cd_m := Lib.hid (Cd_m.out.on hb)
  replace Cd_e := Lib.hid (Cd_e.out.on hb)
  replace Cd_p := Lib.hid (Cd_p.out.on hb)
  replace Hd_m := Lib.hid (Hd_m.out.on hb)
  replace Hd_e := Lib.hid (Hd_e.out.on hb)
  replace Hd_p := Lib.hid (Hd_p.out.on hb)
  replace Hd_l := Lib.hid (Hd_l.out.on hb)
  replace Hd_x := Lib.hid (Hd_x.out.on hb)
  replace Hd_y := Lib.hid (Hd_y.out.on hb)
  replace Hd_t := Lib.hid (Hd_t.out.on hb)
  replace Hd_d := Lib.hid (Hd_d.out.on hb)
  replace Hd_u := Lib.hid (Hd_u.out.on hb)
  replace Hd_a := Lib.hid (Hd_a.out.on hb)
  replace Hd_b := Lib.hid (Hd_b.out.on hb)
  replace BB := Lib.hid (BB.out.trans (hb.mono BB.out.size)); clear hb
  (try go_wp2_with fail)
  clear hHeld
  refine hK.out _ _ ?_ (fun hHeld => ?_)
  · (try dsimp only); exact ⟨Cd_m.out.cell, Cd_e.out.cell, Cd_p.out.cell⟩
  clear hK K
  (try simp only [Act.put, List.setIfInBounds_toArray, List.set_cons_zero, List.set_cons_succ])
  refine wpAnyH_take (i := 14) (oi := { dst := some 106, op := Op.binOp BinOp.neq 3 (Operand.tmp 102) (Operand.tmp 105) 3, type := 4, pos := "laws.go:548", after := #[{ on := 10, ground := Ground.data }, { on := 13, ground := Ground.data }, { on := 9, ground := Ground.guard }], guard := some (9, false) }) (v := ?_) rfl (by kernel_rfl) (by kernel_rfl) (by kernel_rfl) (fun _ _ _ h => h) (Or.inl ⟨by rfl, ?_⟩) (by assumption) ?_
  rotate_left
  · intro w' hSw; (try dsimp only at hSw); first | (go_simp; done) | (go_simp; with_reducible rfl)
  (try simp only [Act.put, List.setIfInBounds_toArray, List.set_cons_zero, List.set_cons_succ])
  refine wpAnyH_take (i := 15) (oi := { dst := some 107, op := Op.pick (Operand.tmp 101) (Operand.const (Value.bool true)) (Operand.tmp 106), type := 4, pos := "laws.go:548", after := #[{ on := 9, ground := Ground.data }, { on := 14, ground := Ground.data }], guard := none }) (v := ?_) rfl (by kernel_rfl) (by kernel_rfl) (by kernel_rfl) (fun _ _ _ h => h) (Or.inl ⟨by rfl, ?_⟩) (by assumption) ?_
  rotate_left
  · intro w' hSw; (try dsimp only at hSw); first | (go_simp; done) | (go_simp; with_reducible rfl)
  (try simp only [Act.put, List.setIfInBounds_toArray, List.set_cons_zero, List.set_cons_succ])
  refine wpAnyH_take (i := 16) (oi := { dst := some 108, op := Op.move (Operand.tmp 107), type := 4, pos := "laws.go:548", after := #[{ on := 15, ground := Ground.data }, { on := 13, ground := Ground.chain }], guard := none }) (v := ?_) rfl (by kernel_rfl) (by kernel_rfl) (by kernel_rfl) (fun _ _ _ h => h) (Or.inl ⟨by rfl, ?_⟩) (by assumption) ?_
  rotate_left
  · intro w' hSw; (try dsimp only at hSw); first | (go_simp; done) | (go_simp; with_reducible rfl)
  (try simp only [Act.put, List.setIfInBounds_toArray, List.set_cons_zero, List.set_cons_succ])
  refine wpAnyH_take (i := 17) (oi := { dst := some 109, op := Op.move (Operand.tmp 12), type := 24, pos := "laws.go:548", after := #[{ on := 16, ground := Ground.guard }], guard := some (16, false) }) (v := ?_) rfl (by kernel_rfl) (by kernel_rfl) (by kernel_rfl) (fun _ _ _ h => h) (Or.inl ⟨by rfl, ?_⟩) (by assumption) ?_
  rotate_left
  · intro w' hSw; (try dsimp only at hSw); first | (go_simp; done) | (go_simp; with_reducible rfl)
  (try simp only [Act.put, List.setIfInBounds_toArray, List.set_cons_zero, List.set_cons_succ])
  refine wpAnyH_take (i := 18) (oi := { dst := some 110, op := Op.load 27 (Operand.tmp 13), type := 27, pos := "laws.go:548", after := #[{ on := 16, ground := Ground.guard }], guard := some (16, false) }) (v := ?_) rfl (by kernel_rfl) (by kernel_rfl) (by kernel_rfl) (fun _ _ _ h => h) (Or.inl ⟨by rfl, ?_⟩) (by assumption) ?_
  rotate_left
  · intro w' hSw; (try dsimp only at hSw); first | (go_simp; done) | (go_simp; with_reducible rfl)
  (try simp only [Act.put, List.setIfInBounds_toArray, List.set_cons_zero, List.set_cons_succ])
  refine wpAnyH_take (i := 20) (oi := { dst := some 112, op := Op.move (Operand.tmp 12), type := 24, pos := "laws.go:548", after := #[{ on := 16, ground := Ground.guard }], guard := some (16, false) }) (v := ?_) rfl (by kernel_rfl) (by kernel_rfl) (by kernel_rfl) (fun _ _ _ h => h) (Or.inl ⟨by rfl, ?_⟩) (by assumption) ?_
  rotate_left
  · intro w' hSw; (try dsimp only at hSw); first | (go_simp; done) | (go_simp; with_reducible rfl)
  (try simp only [Act.put, List.setIfInBounds_toArray, List.set_cons_zero, List.set_cons_succ])
  refine wpAnyH_take (i := 21) (oi := { dst := some 113, op := Op.load 27 (Operand.tmp 13), type := 27, pos := "laws.go:548", after := #[{ on := 16, ground := Ground.guard }], guard := some (16, false) }) (v := ?_) rfl (by kernel_rfl) (by kernel_rfl) (by kernel_rfl) (fun _ _ _ h => h) (Or.inl ⟨by rfl, ?_⟩) (by assumption) ?_
  rotate_left
  · intro w' hSw; (try dsimp only at hSw); first | (go_simp; done) | (go_simp; with_reducible rfl)
  (try simp only [Act.put, List.setIfInBounds_toArray, List.set_cons_zero, List.set_cons_succ])
  refine wpAnyH_ready (rs := [19]) (by kernel_rfl) (by simp) ?_
  refine AllReadyH.cons (o := { dst := some 111, op := Op.call { callee := Callee.value (Operand.func 25), args := #[Operand.tmp 109, Operand.tmp 110], argTypes := #[24, 27] }, type := 24, pos := "laws.go:548", after := #[{ on := 17, ground := Ground.data }, { on := 18, ground := Ground.data }, { on := 16, ground := Ground.chain }, { on := 16, ground := Ground.guard }], guard := some (16, false) }) rfl (fun K hK => ?_) AllReadyH.nil
  go_simp
  refine (implRemoveEntry _ _ td me _ Hd_d.out Hd_e.out (by omega) S_d.out (by omega)).mono ?_
  rintro e wx ⟨qr_, rfl, ho_r, hb⟩
  obtain ⟨x_r, n_r, c_r, rfl, -, -, ho_r⟩ := ho_r.shapeN
  have H_r := Lib.hid ho_r.holds; clear ho_r
  replace Cd_m := Lib.hid (Cd_m.out.on hb)
  replace Cd_e := Lib.hid (Cd_e.out.on hb)
  replace Cd_p := Lib.hid (Cd_p.out.on hb)
  replace Hd_m := Lib.hid (Hd_m.out.on hb)
  replace Hd_e := Lib.hid (Hd_e.out.on hb)
  replace Hd_p := Lib.hid (Hd_p.out.on hb)
  replace Hd_l := Lib.hid (Hd_l.out.on hb)
  replace Hd_x := Lib.hid (Hd_x.out.on hb)
  replace Hd_y := Lib.hid (Hd_y.out.on hb)
  replace Hd_t := Lib.hid (Hd_t.out.on hb)
  replace Hd_d := Lib.hid (Hd_d.out.on hb)
  replace Hd_u := Lib.hid (Hd_u.out.on hb)
  replace Hd_a := Lib.hid (Hd_a.out.on hb)
  replace Hd_b := Lib.hid (Hd_b.out.on hb)
  replace BB := Lib.hid (BB.out.trans (hb.mono BB.out.size)); clear hb
  (try go_wp2_with fail)
  clear hHeld
  refine hK.out _ _ ?_ (fun hHeld => ?_)
  · (try dsimp only); exact ⟨Cd_m.out.cell, Cd_e.out.cell, Cd_p.out.cell⟩
  clear hK K
  (try simp only [Act.put, List.setIfInBounds_toArray, List.set_cons_zero, List.set_cons_succ])
  refine wpAnyH_ready (rs := [22]) (by kernel_rfl) (by simp) ?_
  refine AllReadyH.cons (o := { dst := some 114, op := Op.call { callee := Callee.value (Operand.func 26), args := #[Operand.tmp 112, Operand.tmp 113], argTypes := #[24, 27] }, type := 24, pos := "laws.go:548", after := #[{ on := 20, ground := Ground.data }, { on := 21, ground := Ground.data }, { on := 19, ground := Ground.chain }, { on := 16, ground := Ground.guard }], guard := some (16, false) }) rfl (fun K hK => ?_) AllReadyH.nil
  go_simp
  refine (specRemoveEntry _ _ td me _ Hd_d.out Hd_e.out (by omega) S_d.out (by omega)).mono ?_
  rintro e wx ⟨qs_, rfl, ho_s, hb⟩
  obtain ⟨x_s, n_s, c_s, rfl, -, -, ho_s⟩ := ho_s.shapeN
  replace H_r := Lib.hid (H_r.out.on hb); have H_s := Lib.hid ho_s.holds; clear ho_s
  replace Cd_m := Lib.hid (Cd_m.out.on hb)
  replace Cd_e := Lib.hid (Cd_e.out.on hb)
  replace Cd_p := Lib.hid (Cd_p.out.on hb)
  replace Hd_m := Lib.hid (Hd_m.out.on hb)
  replace Hd_e := Lib.hid (Hd_e.out.on hb)
  replace Hd_p := Lib.hid (Hd_p.out.on hb)
  replace Hd_l := Lib.hid (Hd_l.out.on hb)
  replace Hd_x := Lib.hid (Hd_x.out.on hb)
  replace Hd_y := Lib.hid (Hd_y.out.on hb)
  replace Hd_t := Lib.hid (Hd_t.out.on hb)
  replace Hd_d := Lib.hid (Hd_d.out.on hb)
  replace Hd_u := Lib.hid (Hd_u.out.on hb)
  replace Hd_a := Lib.hid (Hd_a.out.on hb)
  replace Hd_b := Lib.hid (Hd_b.out.on hb)
  replace BB := Lib.hid (BB.out.trans (hb.mono BB.out.size)); clear hb
  (try go_wp2_with fail)
  clear hHeld
  refine hK.out _ _ ?_ (fun hHeld => ?_)
  · (try dsimp only); exact ⟨Cd_m.out.cell, Cd_e.out.cell, Cd_p.out.cell⟩
  clear hK K
  (try simp only [Act.put, List.setIfInBounds_toArray, List.set_cons_zero, List.set_cons_succ])
  refine wpAnyH_ready (rs := [23]) (by kernel_rfl) (by simp) ?_
  refine AllReadyH.cons (o := { dst := some 115, op := Op.call { callee := Callee.value (Operand.func 23), args := #[Operand.tmp 111, Operand.tmp 114], argTypes := #[24, 24] }, type := 4, pos := "laws.go:548", after := #[{ on := 19, ground := Ground.data }, { on := 22, ground := Ground.data }, { on := 22, ground := Ground.chain }, { on := 16, ground := Ground.guard }], guard := some (16, false) }) rfl (fun K hK => ?_) AllReadyH.nil
  go_simp
  refine (sameRowsT H_r.out H_s.out (by have := R_d.2.1; omega) R_d.1).mono ?_
  rintro e wx ⟨rfl, hb⟩
  replace Cd_m := Lib.hid (Cd_m.out.on hb)
  replace Cd_e := Lib.hid (Cd_e.out.on hb)
  replace Cd_p := Lib.hid (Cd_p.out.on hb)
  replace Hd_m := Lib.hid (Hd_m.out.on hb)
  replace Hd_e := Lib.hid (Hd_e.out.on hb)
  replace Hd_p := Lib.hid (Hd_p.out.on hb)
  replace Hd_l := Lib.hid (Hd_l.out.on hb)
  replace Hd_x := Lib.hid (Hd_x.out.on hb)
  replace Hd_y := Lib.hid (Hd_y.out.on hb)
  replace Hd_t := Lib.hid (Hd_t.out.on hb)
  replace Hd_d := Lib.hid (Hd_d.out.on hb)
  replace Hd_u := Lib.hid (Hd_u.out.on hb)
  replace Hd_a := Lib.hid (Hd_a.out.on hb)
  replace Hd_b := Lib.hid (Hd_b.out.on hb)
  replace BB := Lib.hid (BB.out.trans (hb.mono BB.out.size)); clear hb
  (try go_wp2_with fail)
  clear hHeld
  refine hK.out _ _ ?_ (fun hHeld => ?_)
  · (try dsimp only); exact ⟨Cd_m.out.cell, Cd_e.out.cell, Cd_p.out.cell⟩
  clear hK K
  (try simp only [Act.put, List.setIfInBounds_toArray, List.set_cons_zero, List.set_cons_succ])
  refine wpAnyH_take (i := 24) (oi := { dst := some 116, op := Op.unOp UnOp.not 4 (Operand.tmp 115), type := 4, pos := "laws.go:548", after := #[{ on := 23, ground := Ground.data }, { on := 16, ground := Ground.guard }], guard := some (16, false) }) (v := ?_) rfl (by kernel_rfl) (by kernel_rfl) (by kernel_rfl) (fun _ _ _ h => h) (Or.inl ⟨by rfl, ?_⟩) (by assumption) ?_
  rotate_left
  · intro w' hSw; (try dsimp only at hSw); first | (go_simp; done) | (go_simp; with_reducible rfl)
  (try simp only [Act.put, List.setIfInBounds_toArray, List.set_cons_zero, List.set_cons_succ])
  refine wpAnyH_take (i := 25) (oi := { dst := some 117, op := Op.pick (Operand.tmp 108) (Operand.const (Value.bool true)) (Operand.tmp 116), type := 4, pos := "laws.go:548", after := #[{ on := 16, ground := Ground.data }, { on := 24, ground := Ground.data }], guard := none }) (v := ?_) rfl (by kernel_rfl) (by kernel_rfl) (by kernel_rfl) (fun _ _ _ h => h) (Or.inl ⟨by rfl, ?_⟩) (by assumption) ?_
  rotate_left
  · intro w' hSw; (try dsimp only at hSw); first | (go_simp; done) | (go_simp; with_reducible rfl)
  (try simp only [Act.put, List.setIfInBounds_toArray, List.set_cons_zero, List.set_cons_succ])
  refine wpAnyH_take (i := 26) (oi := { dst := some 118, op := Op.move (Operand.tmp 117), type := 4, pos := "laws.go:548", after := #[{ on := 25, ground := Ground.data }, { on := 23, ground := Ground.chain }], guard := none }) (v := ?_) rfl (by kernel_rfl) (by kernel_rfl) (by kernel_rfl) (fun _ _ _ h => h) (Or.inl ⟨by rfl, ?_⟩) (by assumption) ?_
  rotate_left
  · intro w' hSw; (try dsimp only at hSw); first | (go_simp; done) | (go_simp; with_reducible rfl)
  (try simp only [Act.put, List.setIfInBounds_toArray, List.set_cons_zero, List.set_cons_succ])
  refine wpAnyH_take (i := 27) (oi := { dst := some 119, op := Op.move (Operand.tmp 14), type := 24, pos := "laws.go:548", after := #[{ on := 26, ground := Ground.guard }], guard := some (26, false) }) (v := ?_) rfl (by kernel_rfl) (by kernel_rfl) (by kernel_rfl) (fun _ _ _ h => h) (Or.inl ⟨by rfl, ?_⟩) (by assumption) ?_
  rotate_left
  · intro w' hSw; (try dsimp only at hSw); first | (go_simp; done) | (go_simp; with_reducible rfl)
  (try simp only [Act.put, List.setIfInBounds_toArray, List.set_cons_zero, List.set_cons_succ])
  refine wpAnyH_take (i := 28) (oi := { dst := some 120, op := Op.load 27 (Operand.tmp 15), type := 27, pos := "laws.go:548", after := #[{ on := 26, ground := Ground.guard }], guard := some (26, false) }) (v := ?_) rfl (by kernel_rfl) (by kernel_rfl) (by kernel_rfl) (fun _ _ _ h => h) (Or.inl ⟨by rfl, ?_⟩) (by assumption) ?_
  rotate_left
  · intro w' hSw; (try dsimp only at hSw); first | (go_simp; done) | (go_simp; with_reducible rfl)
  (try simp only [Act.put, List.setIfInBounds_toArray, List.set_cons_zero, List.set_cons_succ])
  refine wpAnyH_take (i := 30) (oi := { dst := some 122, op := Op.move (Operand.tmp 14), type := 24, pos := "laws.go:548", after := #[{ on := 26, ground := Ground.guard }], guard := some (26, false) }) (v := ?_) rfl (by kernel_rfl) (by kernel_rfl) (by kernel_rfl) (fun _ _ _ h => h) (Or.inl ⟨by rfl, ?_⟩) (by assumption) ?_
  rotate_left
  · intro w' hSw; (try dsimp only at hSw); first | (go_simp; done) | (go_simp; with_reducible rfl)
  (try simp only [Act.put, List.setIfInBounds_toArray, List.set_cons_zero, List.set_cons_succ])
  refine wpAnyH_take (i := 31) (oi := { dst := some 123, op := Op.load 27 (Operand.tmp 15), type := 27, pos := "laws.go:548", after := #[{ on := 26, ground := Ground.guard }], guard := some (26, false) }) (v := ?_) rfl (by kernel_rfl) (by kernel_rfl) (by kernel_rfl) (fun _ _ _ h => h) (Or.inl ⟨by rfl, ?_⟩) (by assumption) ?_
  rotate_left
  · intro w' hSw; (try dsimp only at hSw); first | (go_simp; done) | (go_simp; with_reducible rfl)
  (try simp only [Act.put, List.setIfInBounds_toArray, List.set_cons_zero, List.set_cons_succ])
  refine wpAnyH_ready (rs := [29]) (by kernel_rfl) (by simp) ?_
  refine AllReadyH.cons (o := { dst := some 121, op := Op.call { callee := Callee.value (Operand.func 27), args := #[Operand.tmp 119, Operand.tmp 120], argTypes := #[24, 27] }, type := 24, pos := "laws.go:548", after := #[{ on := 27, ground := Ground.data }, { on := 28, ground := Ground.data }, { on := 26, ground := Ground.chain }, { on := 26, ground := Ground.guard }], guard := some (26, false) }) rfl (fun K hK => ?_) AllReadyH.nil
  go_simp
  refine (implEntriesUnder _ _ tu mp _ Hd_u.out Hd_p.out (by omega) S_u.out (by omega)).mono ?_
  rintro e wx ⟨qi_, rfl, ho_i, hb⟩
  obtain ⟨x_i, n_i, c_i, rfl, -, -, ho_i⟩ := ho_i.shapeN
  have H_i := Lib.hid ho_i.holds; clear ho_i
  replace Cd_m := Lib.hid (Cd_m.out.on hb)
  replace Cd_e := Lib.hid (Cd_e.out.on hb)
  replace Cd_p := Lib.hid (Cd_p.out.on hb)
  replace Hd_m := Lib.hid (Hd_m.out.on hb)
  replace Hd_e := Lib.hid (Hd_e.out.on hb)
  replace Hd_p := Lib.hid (Hd_p.out.on hb)
  replace Hd_l := Lib.hid (Hd_l.out.on hb)
  replace Hd_x := Lib.hid (Hd_x.out.on hb)
  replace Hd_y := Lib.hid (Hd_y.out.on hb)
  replace Hd_t := Lib.hid (Hd_t.out.on hb)
  replace Hd_d := Lib.hid (Hd_d.out.on hb)
  replace Hd_u := Lib.hid (Hd_u.out.on hb)
  replace Hd_a := Lib.hid (Hd_a.out.on hb)
  replace Hd_b := Lib.hid (Hd_b.out.on hb)
  replace BB := Lib.hid (BB.out.trans (hb.mono BB.out.size)); clear hb
  (try go_wp2_with fail)
  clear hHeld
  refine hK.out _ _ ?_ (fun hHeld => ?_)
  · (try dsimp only); exact ⟨Cd_m.out.cell, Cd_e.out.cell, Cd_p.out.cell⟩
  clear hK K
  (try simp only [Act.put, List.setIfInBounds_toArray, List.set_cons_zero, List.set_cons_succ])
  refine wpAnyH_ready (rs := [32]) (by kernel_rfl) (by simp) ?_
  refine AllReadyH.cons (o := { dst := some 124, op := Op.call { callee := Callee.value (Operand.func 28), args := #[Operand.tmp 122, Operand.tmp 123], argTypes := #[24, 27] }, type := 24, pos := "laws.go:548", after := #[{ on := 30, ground := Ground.data }, { on := 31, ground := Ground.data }, { on := 29, ground := Ground.chain }, { on := 26, ground := Ground.guard }], guard := some (26, false) }) rfl (fun K hK => ?_) AllReadyH.nil
  go_simp
  refine (specEntriesUnder _ _ tu mp _ Hd_u.out Hd_p.out (by omega) S_u.out (by omega)).mono ?_
  rintro e wx ⟨qo_, rfl, ho_o, hb⟩
  obtain ⟨x_o, n_o, c_o, rfl, -, -, ho_o⟩ := ho_o.shapeN
  replace H_i := Lib.hid (H_i.out.on hb); have H_o := Lib.hid ho_o.holds; clear ho_o
  replace Cd_m := Lib.hid (Cd_m.out.on hb)
  replace Cd_e := Lib.hid (Cd_e.out.on hb)
  replace Cd_p := Lib.hid (Cd_p.out.on hb)
  replace Hd_m := Lib.hid (Hd_m.out.on hb)
  replace Hd_e := Lib.hid (Hd_e.out.on hb)
  replace Hd_p := Lib.hid (Hd_p.out.on hb)
  replace Hd_l := Lib.hid (Hd_l.out.on hb)
  replace Hd_x := Lib.hid (Hd_x.out.on hb)
  replace Hd_y := Lib.hid (Hd_y.out.on hb)
  replace Hd_t := Lib.hid (Hd_t.out.on hb)
  replace Hd_d := Lib.hid (Hd_d.out.on hb)
  replace Hd_u := Lib.hid (Hd_u.out.on hb)
  replace Hd_a := Lib.hid (Hd_a.out.on hb)
  replace Hd_b := Lib.hid (Hd_b.out.on hb)
  replace BB := Lib.hid (BB.out.trans (hb.mono BB.out.size)); clear hb
  (try go_wp2_with fail)
  clear hHeld
  refine hK.out _ _ ?_ (fun hHeld => ?_)
  · (try dsimp only); exact ⟨Cd_m.out.cell, Cd_e.out.cell, Cd_p.out.cell⟩
  clear hK K
  (try simp only [Act.put, List.setIfInBounds_toArray, List.set_cons_zero, List.set_cons_succ])
  refine wpAnyH_ready (rs := [33]) (by kernel_rfl) (by simp) ?_
  refine AllReadyH.cons (o := { dst := some 125, op := Op.call { callee := Callee.value (Operand.func 23), args := #[Operand.tmp 121, Operand.tmp 124], argTypes := #[24, 24] }, type := 4, pos := "laws.go:548", after := #[{ on := 29, ground := Ground.data }, { on := 32, ground := Ground.data }, { on := 32, ground := Ground.chain }, { on := 26, ground := Ground.guard }], guard := some (26, false) }) rfl (fun K hK => ?_) AllReadyH.nil
  go_simp
  refine (sameRowsT H_i.out H_o.out (by have := R_u.2.1; omega) R_u.1).mono ?_
  rintro e wx ⟨rfl, hb⟩
  replace Cd_m := Lib.hid (Cd_m.out.on hb)
  replace Cd_e := Lib.hid (Cd_e.out.on hb)
  replace Cd_p := Lib.hid (Cd_p.out.on hb)
  replace Hd_m := Lib.hid (Hd_m.out.on hb)
  replace Hd_e := Lib.hid (Hd_e.out.on hb)
  replace Hd_p := Lib.hid (Hd_p.out.on hb)
  replace Hd_l := Lib.hid (Hd_l.out.on hb)
  replace Hd_x := Lib.hid (Hd_x.out.on hb)
  replace Hd_y := Lib.hid (Hd_y.out.on hb)
  replace Hd_t := Lib.hid (Hd_t.out.on hb)
  replace Hd_d := Lib.hid (Hd_d.out.on hb)
  replace Hd_u := Lib.hid (Hd_u.out.on hb)
  replace Hd_a := Lib.hid (Hd_a.out.on hb)
  replace Hd_b := Lib.hid (Hd_b.out.on hb)
  replace BB := Lib.hid (BB.out.trans (hb.mono BB.out.size)); clear hb
  (try go_wp2_with fail)
  clear hHeld
  refine hK.out _ _ ?_ (fun hHeld => ?_)
  · (try dsimp only); exact ⟨Cd_m.out.cell, Cd_e.out.cell, Cd_p.out.cell⟩
  clear hK K
  (try simp only [Act.put, List.setIfInBounds_toArray, List.set_cons_zero, List.set_cons_succ])
  refine wpAnyH_take (i := 34) (oi := { dst := some 126, op := Op.unOp UnOp.not 4 (Operand.tmp 125), type := 4, pos := "laws.go:548", after := #[{ on := 33, ground := Ground.data }, { on := 26, ground := Ground.guard }], guard := some (26, false) }) (v := ?_) rfl (by kernel_rfl) (by kernel_rfl) (by kernel_rfl) (fun _ _ _ h => h) (Or.inl ⟨by rfl, ?_⟩) (by assumption) ?_
  rotate_left
  · intro w' hSw; (try dsimp only at hSw); first | (go_simp; done) | (go_simp; with_reducible rfl)
  (try simp only [Act.put, List.setIfInBounds_toArray, List.set_cons_zero, List.set_cons_succ])
  refine wpAnyH_take (i := 35) (oi := { dst := some 127, op := Op.pick (Operand.tmp 118) (Operand.const (Value.bool true)) (Operand.tmp 126), type := 4, pos := "laws.go:548", after := #[{ on := 26, ground := Ground.data }, { on := 34, ground := Ground.data }], guard := none }) (v := ?_) rfl (by kernel_rfl) (by kernel_rfl) (by kernel_rfl) (fun _ _ _ h => h) (Or.inl ⟨by rfl, ?_⟩) (by assumption) ?_
  rotate_left
  · intro w' hSw; (try dsimp only at hSw); first | (go_simp; done) | (go_simp; with_reducible rfl)
  (try simp only [Act.put, List.setIfInBounds_toArray, List.set_cons_zero, List.set_cons_succ])
  refine wpAnyH_take (i := 36) (oi := { dst := some 128, op := Op.move (Operand.tmp 127), type := 4, pos := "laws.go:548", after := #[{ on := 35, ground := Ground.data }, { on := 33, ground := Ground.chain }], guard := none }) (v := ?_) rfl (by kernel_rfl) (by kernel_rfl) (by kernel_rfl) (fun _ _ _ h => h) (Or.inl ⟨by rfl, ?_⟩) (by assumption) ?_
  rotate_left
  · intro w' hSw; (try dsimp only at hSw); first | (go_simp; done) | (go_simp; with_reducible rfl)
  (try simp only [Act.put, List.setIfInBounds_toArray, List.set_cons_zero, List.set_cons_succ])
  refine wpAnyH_take (i := 37) (oi := { dst := some 129, op := Op.move (Operand.tmp 16), type := 24, pos := "laws.go:548", after := #[{ on := 36, ground := Ground.guard }], guard := some (36, false) }) (v := ?_) rfl (by kernel_rfl) (by kernel_rfl) (by kernel_rfl) (fun _ _ _ h => h) (Or.inl ⟨by rfl, ?_⟩) (by assumption) ?_
  rotate_left
  · intro w' hSw; (try dsimp only at hSw); first | (go_simp; done) | (go_simp; with_reducible rfl)
  (try simp only [Act.put, List.setIfInBounds_toArray, List.set_cons_zero, List.set_cons_succ])
  refine wpAnyH_take (i := 38) (oi := { dst := some 130, op := Op.move (Operand.tmp 17), type := 24, pos := "laws.go:548", after := #[{ on := 36, ground := Ground.guard }], guard := some (36, false) }) (v := ?_) rfl (by kernel_rfl) (by kernel_rfl) (by kernel_rfl) (fun _ _ _ h => h) (Or.inl ⟨by rfl, ?_⟩) (by assumption) ?_
  rotate_left
  · intro w' hSw; (try dsimp only at hSw); first | (go_simp; done) | (go_simp; with_reducible rfl)
  (try simp only [Act.put, List.setIfInBounds_toArray, List.set_cons_zero, List.set_cons_succ])
  refine wpAnyH_take (i := 40) (oi := { dst := some 132, op := Op.move (Operand.tmp 16), type := 24, pos := "laws.go:548", after := #[{ on := 36, ground := Ground.guard }], guard := some (36, false) }) (v := ?_) rfl (by kernel_rfl) (by kernel_rfl) (by kernel_rfl) (fun _ _ _ h => h) (Or.inl ⟨by rfl, ?_⟩) (by assumption) ?_
  rotate_left
  · intro w' hSw; (try dsimp only at hSw); first | (go_simp; done) | (go_simp; with_reducible rfl)
  (try simp only [Act.put, List.setIfInBounds_toArray, List.set_cons_zero, List.set_cons_succ])
  refine wpAnyH_take (i := 41) (oi := { dst := some 133, op := Op.move (Operand.tmp 17), type := 24, pos := "laws.go:548", after := #[{ on := 36, ground := Ground.guard }], guard := some (36, false) }) (v := ?_) rfl (by kernel_rfl) (by kernel_rfl) (by kernel_rfl) (fun _ _ _ h => h) (Or.inl ⟨by rfl, ?_⟩) (by assumption) ?_
  rotate_left
  · intro w' hSw; (try dsimp only at hSw); first | (go_simp; done) | (go_simp; with_reducible rfl)
  (try simp only [Act.put, List.setIfInBounds_toArray, List.set_cons_zero, List.set_cons_succ])
  refine wpAnyH_ready (rs := [39]) (by kernel_rfl) (by simp) ?_
  refine AllReadyH.cons (o := { dst := some 131, op := Op.call { callee := Callee.value (Operand.func 29), args := #[Operand.tmp 129, Operand.tmp 130], argTypes := #[24, 24] }, type := 4, pos := "laws.go:548", after := #[{ on := 37, ground := Ground.data }, { on := 38, ground := Ground.data }, { on := 36, ground := Ground.chain }, { on := 36, ground := Ground.guard }], guard := some (36, false) }) rfl (fun K hK => ?_) AllReadyH.nil
  go_simp
  refine (iEqTV q HQQ.out Hd_a.out Hd_b.out (by omega) (by omega) S_a.out S_b.out).mono ?_
  rintro e wx ⟨rfl, hb⟩
  replace Cd_m := Lib.hid (Cd_m.out.on hb)
  replace Cd_e := Lib.hid (Cd_e.out.on hb)
  replace Cd_p := Lib.hid (Cd_p.out.on hb)
  replace Hd_m := Lib.hid (Hd_m.out.on hb)
  replace Hd_e := Lib.hid (Hd_e.out.on hb)
  replace Hd_p := Lib.hid (Hd_p.out.on hb)
  replace Hd_l := Lib.hid (Hd_l.out.on hb)
  replace Hd_x := Lib.hid (Hd_x.out.on hb)
  replace Hd_y := Lib.hid (Hd_y.out.on hb)
  replace Hd_t := Lib.hid (Hd_t.out.on hb)
  replace Hd_d := Lib.hid (Hd_d.out.on hb)
  replace Hd_u := Lib.hid (Hd_u.out.on hb)
  replace Hd_a := Lib.hid (Hd_a.out.on hb)
  replace Hd_b := Lib.hid (Hd_b.out.on hb)
  replace BB := Lib.hid (BB.out.trans (hb.mono BB.out.size)); clear hb
  (try go_wp2_with fail)
  clear hHeld
  refine hK.out _ _ ?_ (fun hHeld => ?_)
  · (try dsimp only); exact ⟨Cd_m.out.cell, Cd_e.out.cell, Cd_p.out.cell⟩
  clear hK K
  (try simp only [Act.put, List.setIfInBounds_toArray, List.set_cons_zero, List.set_cons_succ])
  refine wpAnyH_ready (rs := [42]) (by kernel_rfl) (by simp) ?_
  refine AllReadyH.cons (o := { dst := some 134, op := Op.call { callee := Callee.value (Operand.func 23), args := #[Operand.tmp 132, Operand.tmp 133], argTypes := #[24, 24] }, type := 4, pos := "laws.go:548", after := #[{ on := 40, ground := Ground.data }, { on := 41, ground := Ground.data }, { on := 39, ground := Ground.chain }, { on := 36, ground := Ground.guard }], guard := some (36, false) }) rfl (fun K hK => ?_) AllReadyH.nil
  go_simp
  refine (sRowsV q HQQ.out Hd_a.out Hd_b.out (by omega) (by omega) S_a.out S_b.out).mono ?_
  rintro e wx ⟨rfl, hb⟩
  replace Cd_m := Lib.hid (Cd_m.out.on hb)
  replace Cd_e := Lib.hid (Cd_e.out.on hb)
  replace Cd_p := Lib.hid (Cd_p.out.on hb)
  replace Hd_m := Lib.hid (Hd_m.out.on hb)
  replace Hd_e := Lib.hid (Hd_e.out.on hb)
  replace Hd_p := Lib.hid (Hd_p.out.on hb)
  replace Hd_l := Lib.hid (Hd_l.out.on hb)
  replace Hd_x := Lib.hid (Hd_x.out.on hb)
  replace Hd_y := Lib.hid (Hd_y.out.on hb)
  replace Hd_t := Lib.hid (Hd_t.out.on hb)
  replace Hd_d := Lib.hid (Hd_d.out.on hb)
  replace Hd_u := Lib.hid (Hd_u.out.on hb)
  replace Hd_a := Lib.hid (Hd_a.out.on hb)
  replace Hd_b := Lib.hid (Hd_b.out.on hb)
  replace BB := Lib.hid (BB.out.trans (hb.mono BB.out.size)); clear hb
  (try go_wp2_with fail)
  clear hHeld
  refine hK.out _ _ ?_ (fun hHeld => ?_)
  · (try dsimp only); exact ⟨Cd_m.out.cell, Cd_e.out.cell, Cd_p.out.cell⟩
  clear hK K
  (try simp only [Act.put, List.setIfInBounds_toArray, List.set_cons_zero, List.set_cons_succ])
  refine wpAnyH_take (i := 43) (oi := { dst := some 135, op := Op.binOp BinOp.neq 4 (Operand.tmp 131) (Operand.tmp 134) 4, type := 4, pos := "laws.go:548", after := #[{ on := 39, ground := Ground.data }, { on := 42, ground := Ground.data }, { on := 36, ground := Ground.guard }], guard := some (36, false) }) (v := ?_) rfl (by kernel_rfl) (by kernel_rfl) (by kernel_rfl) (fun _ _ _ h => h) (Or.inl ⟨by rfl, ?_⟩) (by assumption) ?_
  rotate_left
  · intro w' hSw; (try dsimp only at hSw); first | (go_simp; done) | (go_simp; with_reducible rfl)
  (try simp only [Act.put, List.setIfInBounds_toArray, List.set_cons_zero, List.set_cons_succ])
  refine wpAnyH_take (i := 44) (oi := { dst := some 136, op := Op.pick (Operand.tmp 128) (Operand.const (Value.bool true)) (Operand.tmp 135), type := 4, pos := "laws.go:548", after := #[{ on := 36, ground := Ground.data }, { on := 43, ground := Ground.data }], guard := none }) (v := ?_) rfl (by kernel_rfl) (by kernel_rfl) (by kernel_rfl) (fun _ _ _ h => h) (Or.inl ⟨by rfl, ?_⟩) (by assumption) ?_
  rotate_left
  · intro w' hSw; (try dsimp only at hSw); first | (go_simp; done) | (go_simp; with_reducible rfl)
  (try simp only [Act.put, List.setIfInBounds_toArray, List.set_cons_zero, List.set_cons_succ])
  refine wpAnyH_take (i := 45) (oi := { dst := some 137, op := Op.move (Operand.tmp 136), type := 4, pos := "laws.go:548", after := #[{ on := 44, ground := Ground.data }, { on := 42, ground := Ground.chain }], guard := none }) (v := ?_) rfl (by kernel_rfl) (by kernel_rfl) (by kernel_rfl) (fun _ _ _ h => h) (Or.inl ⟨by rfl, ?_⟩) (by assumption) ?_
  rotate_left
  · intro w' hSw; (try dsimp only at hSw); first | (go_simp; done) | (go_simp; with_reducible rfl)
  (try simp only [Act.put, List.setIfInBounds_toArray, List.set_cons_zero, List.set_cons_succ])
  refine wpAnyH_take (i := 46) (oi := { dst := some 138, op := Op.move (Operand.tmp 20), type := 3, pos := "laws.go:548", after := #[{ on := 45, ground := Ground.guard }], guard := some (45, false) }) (v := ?_) rfl (by kernel_rfl) (by kernel_rfl) (by kernel_rfl) (fun _ _ _ h => h) (Or.inl ⟨by rfl, ?_⟩) (by assumption) ?_
  rotate_left
  · intro w' hSw; (try dsimp only at hSw); first | (go_simp; done) | (go_simp; with_reducible rfl)
  (try simp only [Act.put, List.setIfInBounds_toArray, List.set_cons_zero, List.set_cons_succ])
  refine wpAnyH_take (i := 47) (oi := { dst := some 139, op := Op.move (Operand.tmp 22), type := 3, pos := "laws.go:548", after := #[{ on := 45, ground := Ground.guard }], guard := some (45, false) }) (v := ?_) rfl (by kernel_rfl) (by kernel_rfl) (by kernel_rfl) (fun _ _ _ h => h) (Or.inl ⟨by rfl, ?_⟩) (by assumption) ?_
  rotate_left
  · intro w' hSw; (try dsimp only at hSw); first | (go_simp; done) | (go_simp; with_reducible rfl)
  (try simp only [Act.put, List.setIfInBounds_toArray, List.set_cons_zero, List.set_cons_succ])
  refine wpAnyH_take (i := 48) (oi := { dst := some 140, op := Op.binOp BinOp.neq 3 (Operand.tmp 138) (Operand.tmp 139) 3, type := 4, pos := "laws.go:548", after := #[{ on := 46, ground := Ground.data }, { on := 47, ground := Ground.data }, { on := 45, ground := Ground.guard }], guard := some (45, false) }) (v := ?_) rfl (by kernel_rfl) (by kernel_rfl) (by kernel_rfl) (fun _ _ _ h => h) (Or.inl ⟨by rfl, ?_⟩) (by assumption) ?_
  rotate_left
  · intro w' hSw; (try dsimp only at hSw); first | (go_simp; done) | (go_simp; with_reducible rfl)
  (try simp only [Act.put, List.setIfInBounds_toArray, List.set_cons_zero, List.set_cons_succ])
  refine wpAnyH_take (i := 49) (oi := { dst := some 141, op := Op.pick (Operand.tmp 137) (Operand.const (Value.bool true)) (Operand.tmp 140), type := 4, pos := "laws.go:548", after := #[{ on := 45, ground := Ground.data }, { on := 48, ground := Ground.data }], guard := none }) (v := ?_) rfl (by kernel_rfl) (by kernel_rfl) (by kernel_rfl) (fun _ _ _ h => h) (Or.inl ⟨by rfl, ?_⟩) (by assumption) ?_
  rotate_left
  · intro w' hSw; (try dsimp only at hSw); first | (go_simp; done) | (go_simp; with_reducible rfl)
  (try simp only [Act.put, List.setIfInBounds_toArray, List.set_cons_zero, List.set_cons_succ])
  refine wpAnyH_take (i := 50) (oi := { dst := some 142, op := Op.move (Operand.tmp 141), type := 4, pos := "laws.go:548", after := #[{ on := 49, ground := Ground.data }, { on := 45, ground := Ground.chain }], guard := none }) (v := ?_) rfl (by kernel_rfl) (by kernel_rfl) (by kernel_rfl) (fun _ _ _ h => h) (Or.inl ⟨by rfl, ?_⟩) (by assumption) ?_
  rotate_left
  · intro w' hSw; (try dsimp only at hSw); first | (go_simp; done) | (go_simp; with_reducible rfl)
  (try simp only [Act.put, List.setIfInBounds_toArray, List.set_cons_zero, List.set_cons_succ])
  refine wpAnyH_take (i := 51) (oi := { dst := some 143, op := Op.move (Operand.tmp 21), type := 4, pos := "laws.go:548", after := #[{ on := 50, ground := Ground.guard }], guard := some (50, false) }) (v := ?_) rfl (by kernel_rfl) (by kernel_rfl) (by kernel_rfl) (fun _ _ _ h => h) (Or.inl ⟨by rfl, ?_⟩) (by assumption) ?_
  rotate_left
  · intro w' hSw; (try dsimp only at hSw); first | (go_simp; done) | (go_simp; with_reducible rfl)
  (try simp only [Act.put, List.setIfInBounds_toArray, List.set_cons_zero, List.set_cons_succ])
  refine wpAnyH_take (i := 52) (oi := { dst := some 144, op := Op.move (Operand.tmp 23), type := 4, pos := "laws.go:548", after := #[{ on := 50, ground := Ground.guard }], guard := some (50, false) }) (v := ?_) rfl (by kernel_rfl) (by kernel_rfl) (by kernel_rfl) (fun _ _ _ h => h) (Or.inl ⟨by rfl, ?_⟩) (by assumption) ?_
  rotate_left
  · intro w' hSw; (try dsimp only at hSw); first | (go_simp; done) | (go_simp; with_reducible rfl)
  (try simp only [Act.put, List.setIfInBounds_toArray, List.set_cons_zero, List.set_cons_succ])
  refine wpAnyH_take (i := 53) (oi := { dst := some 145, op := Op.binOp BinOp.neq 4 (Operand.tmp 143) (Operand.tmp 144) 4, type := 4, pos := "laws.go:548", after := #[{ on := 51, ground := Ground.data }, { on := 52, ground := Ground.data }, { on := 50, ground := Ground.guard }], guard := some (50, false) }) (v := ?_) rfl (by kernel_rfl) (by kernel_rfl) (by kernel_rfl) (fun _ _ _ h => h) (Or.inl ⟨by rfl, ?_⟩) (by assumption) ?_
  rotate_left
  · intro w' hSw; (try dsimp only at hSw); first | (go_simp; done) | (go_simp; with_reducible rfl)
  (try simp only [Act.put, List.setIfInBounds_toArray, List.set_cons_zero, List.set_cons_succ])
  refine wpAnyH_take (i := 54) (oi := { dst := some 146, op := Op.pick (Operand.tmp 142) (Operand.const (Value.bool true)) (Operand.tmp 145), type := 4, pos := "laws.go:548", after := #[{ on := 50, ground := Ground.data }, { on := 53, ground := Ground.data }], guard := none }) (v := ?_) rfl (by kernel_rfl) (by kernel_rfl) (by kernel_rfl) (fun _ _ _ h => h) (Or.inl ⟨by rfl, ?_⟩) (by assumption) ?_
  rotate_left
  · intro w' hSw; (try dsimp only at hSw); first | (go_simp; done) | (go_simp; with_reducible rfl)
  (try simp only [Act.put, List.setIfInBounds_toArray, List.set_cons_zero, List.set_cons_succ])
  refine wpAnyH_take (i := 55) (oi := { dst := some 147, op := Op.move (Operand.tmp 146), type := 4, pos := "laws.go:548", after := #[{ on := 54, ground := Ground.data }, { on := 50, ground := Ground.chain }], guard := none }) (v := ?_) rfl (by kernel_rfl) (by kernel_rfl) (by kernel_rfl) (fun _ _ _ h => h) (Or.inl ⟨by rfl, ?_⟩) (by assumption) ?_
  rotate_left
  · intro w' hSw; (try dsimp only at hSw); first | (go_simp; done) | (go_simp; with_reducible rfl)
  (try simp only [Act.put, List.setIfInBounds_toArray, List.set_cons_zero, List.set_cons_succ])
  refine wpAnyH_take (i := 56) (oi := { dst := some 148, op := Op.move (Operand.tmp 3), type := 24, pos := "laws.go:548", after := #[{ on := 55, ground := Ground.guard }], guard := some (55, false) }) (v := ?_) rfl (by kernel_rfl) (by kernel_rfl) (by kernel_rfl) (fun _ _ _ h => h) (Or.inl ⟨by rfl, ?_⟩) (by assumption) ?_
  rotate_left
  · intro w' hSw; (try dsimp only at hSw); first | (go_simp; done) | (go_simp; with_reducible rfl)
  (try simp only [Act.put, List.setIfInBounds_toArray, List.set_cons_zero, List.set_cons_succ])
  refine wpAnyH_take (i := 58) (oi := { dst := some 150, op := Op.move (Operand.tmp 3), type := 24, pos := "laws.go:548", after := #[{ on := 55, ground := Ground.guard }], guard := some (55, false) }) (v := ?_) rfl (by kernel_rfl) (by kernel_rfl) (by kernel_rfl) (fun _ _ _ h => h) (Or.inl ⟨by rfl, ?_⟩) (by assumption) ?_
  rotate_left
  · intro w' hSw; (try dsimp only at hSw); first | (go_simp; done) | (go_simp; with_reducible rfl)
  (try simp only [Act.put, List.setIfInBounds_toArray, List.set_cons_zero, List.set_cons_succ])
  refine wpAnyH_ready (rs := [57]) (by kernel_rfl) (by simp) ?_
  refine AllReadyH.cons (o := { dst := some 149, op := Op.call { callee := Callee.value (Operand.func 30), args := #[Operand.tmp 148], argTypes := #[24] }, type := 4, pos := "laws.go:548", after := #[{ on := 56, ground := Ground.data }, { on := 55, ground := Ground.chain }, { on := 55, ground := Ground.guard }], guard := some (55, false) }) rfl (fun K hK => ?_) AllReadyH.nil
  go_simp
  refine (iValTV z HZ.out Hd_l.out (by omega) S_l.out).mono ?_
  rintro e wx ⟨rfl, hb⟩
  replace Cd_m := Lib.hid (Cd_m.out.on hb)
  replace Cd_e := Lib.hid (Cd_e.out.on hb)
  replace Cd_p := Lib.hid (Cd_p.out.on hb)
  replace Hd_m := Lib.hid (Hd_m.out.on hb)
  replace Hd_e := Lib.hid (Hd_e.out.on hb)
  replace Hd_p := Lib.hid (Hd_p.out.on hb)
  replace Hd_l := Lib.hid (Hd_l.out.on hb)
  replace Hd_x := Lib.hid (Hd_x.out.on hb)
  replace Hd_y := Lib.hid (Hd_y.out.on hb)
  replace Hd_t := Lib.hid (Hd_t.out.on hb)
  replace Hd_d := Lib.hid (Hd_d.out.on hb)
  replace Hd_u := Lib.hid (Hd_u.out.on hb)
  replace Hd_a := Lib.hid (Hd_a.out.on hb)
  replace Hd_b := Lib.hid (Hd_b.out.on hb)
  replace BB := Lib.hid (BB.out.trans (hb.mono BB.out.size)); clear hb
  (try go_wp2_with fail)
  clear hHeld
  refine hK.out _ _ ?_ (fun hHeld => ?_)
  · (try dsimp only); exact ⟨Cd_m.out.cell, Cd_e.out.cell, Cd_p.out.cell⟩
  clear hK K
  (try simp only [Act.put, List.setIfInBounds_toArray, List.set_cons_zero, List.set_cons_succ])
  refine wpAnyH_ready (rs := [59]) (by kernel_rfl) (by simp) ?_
  refine AllReadyH.cons (o := { dst := some 151, op := Op.call { callee := Callee.value (Operand.func 31), args := #[Operand.tmp 150], argTypes := #[24] }, type := 4, pos := "laws.go:548", after := #[{ on := 58, ground := Ground.data }, { on := 57, ground := Ground.chain }, { on := 55, ground := Ground.guard }], guard := some (55, false) }) rfl (fun K hK => ?_) AllReadyH.nil
  go_simp
  refine (sValTV z HZ.out Hd_l.out (by omega) S_l.out).mono ?_
  rintro e wx ⟨rfl, hb⟩
  replace Cd_m := Lib.hid (Cd_m.out.on hb)
  replace Cd_e := Lib.hid (Cd_e.out.on hb)
  replace Cd_p := Lib.hid (Cd_p.out.on hb)
  replace Hd_m := Lib.hid (Hd_m.out.on hb)
  replace Hd_e := Lib.hid (Hd_e.out.on hb)
  replace Hd_p := Lib.hid (Hd_p.out.on hb)
  replace Hd_l := Lib.hid (Hd_l.out.on hb)
  replace Hd_x := Lib.hid (Hd_x.out.on hb)
  replace Hd_y := Lib.hid (Hd_y.out.on hb)
  replace Hd_t := Lib.hid (Hd_t.out.on hb)
  replace Hd_d := Lib.hid (Hd_d.out.on hb)
  replace Hd_u := Lib.hid (Hd_u.out.on hb)
  replace Hd_a := Lib.hid (Hd_a.out.on hb)
  replace Hd_b := Lib.hid (Hd_b.out.on hb)
  replace BB := Lib.hid (BB.out.trans (hb.mono BB.out.size)); clear hb
  (try go_wp2_with fail)
  clear hHeld
  refine hK.out _ _ ?_ (fun hHeld => ?_)
  · (try dsimp only); exact ⟨Cd_m.out.cell, Cd_e.out.cell, Cd_p.out.cell⟩
  clear hK K
  (try simp only [Act.put, List.setIfInBounds_toArray, List.set_cons_zero, List.set_cons_succ])
  refine wpAnyH_take (i := 60) (oi := { dst := some 152, op := Op.binOp BinOp.neq 4 (Operand.tmp 149) (Operand.tmp 151) 4, type := 4, pos := "laws.go:548", after := #[{ on := 57, ground := Ground.data }, { on := 59, ground := Ground.data }, { on := 55, ground := Ground.guard }], guard := some (55, false) }) (v := ?_) rfl (by kernel_rfl) (by kernel_rfl) (by kernel_rfl) (fun _ _ _ h => h) (Or.inl ⟨by rfl, ?_⟩) (by assumption) ?_
  rotate_left
  · intro w' hSw; (try dsimp only at hSw); first | (go_simp; done) | (go_simp; with_reducible rfl)
  (try simp only [Act.put, List.setIfInBounds_toArray, List.set_cons_zero, List.set_cons_succ])
  refine wpAnyH_take (i := 61) (oi := { dst := some 153, op := Op.pick (Operand.tmp 147) (Operand.const (Value.bool true)) (Operand.tmp 152), type := 4, pos := "laws.go:548", after := #[{ on := 55, ground := Ground.data }, { on := 60, ground := Ground.data }], guard := none }) (v := ?_) rfl (by kernel_rfl) (by kernel_rfl) (by kernel_rfl) (fun _ _ _ h => h) (Or.inl ⟨by rfl, ?_⟩) (by assumption) ?_
  rotate_left
  · intro w' hSw; (try dsimp only at hSw); first | (go_simp; done) | (go_simp; with_reducible rfl)
  (try simp only [Act.put, List.setIfInBounds_toArray, List.set_cons_zero, List.set_cons_succ])
  refine wpAnyH_done (by kernel_rfl) ?_ _
  exact NoPanic.normal (HQ.out _ _ _ _ _ _ _ _ _ _ _ _ _ _ _ _ _ _ _ _ _ _ _ _ _ _ _ _ _ _ _ _ _ _ _ _ _ _ _ _ _ _ _ _ _ _ _ _ _ _ _ _ _ _ _ _ _ _ _ _ _ _ BB.out)

set_option maxRecDepth 100000 in
set_option maxHeartbeats 4000000 in
theorem regT19a {Q : Exit → Act → World → Prop} {v0 v1 v2 v3 v4 v5 v6 v7 v8 v9 v12 v13 v14 v15 v16 v17 v18 v19 v20 v21 v22 v23 v24 v26 v27 v28 v29 v30 v31 v32 v33 v34 v35 v36 v37 v38 v39 v40 v41 v42 v43 v44 v45 v46 v47 v48 v49 v50 v51 v52 v53 v54 v55 v56 v57 v58 v59 v60 v61 v62 v63 v64 v65 v66 v67 v68 v69 v70 v71 v72 v73 v74 v75 v76 v77 v78 v79 v80 v81 v82 v83 v84 v85 v86 v87 v88 v89 v90 v91 v92 v93 v94 v95 v96 v97 v98 v99 v100 v101 v102 v103 v104 v105 v106 v107 v108 v109 v110 v111 v112 v113 v114 v115 v116 v117 v118 v119 v120 v121 v122 v123 v124 v125 v126 v127 v128 v129 v130 v131 v132 v133 v134 v135 v136 v137 v138 v139 v140 v141 v142 v143 v144 v145 v146 v147 v148 v149 v150 v151 v152 v153 v154 v155 v156 v157 v158 v159 v160 v161 v162 v163 v164 v165 v166 v167 v168 v169 v170 v171 v172 v173 v174 v175 v176 v177 v178 v179 v180 v181 v182 v183 v184 v185 v186 v187 v188 v189 v190 v191 v192 v193 v194 v195 v196 v197 v198 v199 v200 v201 v202 v203 v204 v205 v206 v207 v208 v209 v210 v211 v212 v213 v214 v215 v216 v217 v218 v219 v220 v221 v222 v223 v224 v225 v226 v227 v228 v229 v230 v231 v232 : Value} {w : World} {p : Nat} {xm : Option Addr} {nm cm : Nat} {lm : List ByteArray} (C_m : Hid (Ret.Box w p (.slice xm nm cm) 27)) (H_m : Hid (Holds Value.string w (.slice xm nm cm) lm)) (HM : Hid (lm.length ≤ 9000000)) {b off n cx j na ca : Nat} {xa : Option Addr} {la : List ByteArray} (hj : j < n) (hn : n ≤ 1000) (K1 : Hid (w.cell? ⟨b, off + j * 2, none⟩ = some (.slice xa na ca))) (H_a : Hid (Holds Value.string w (.slice xa na ca) la)) (HL : Hid (la.length ≤ 9000000)) (HV : Hid (hpB lm la = false))
    (hQ : ∀ (u160 u161 u162 u163 u164 u165 u166 u167 u168 u169 u170 u171 u172 u173 u174 u175 u176 u177 u178 u179 u180 u181 u182 u183 u184 u185 u186 : Value) (wx : World), Below w.heap.size w wx → Q .normal ⟨#[v0, v1, v2, v3, v4, v5, v6, v7, v8, v9, .slice (some ⟨b, off, none⟩) n cx, .pointer (some ⟨p, 0, none⟩), v12, v13, v14, v15, v16, v17, v18, v19, v20, v21, v22, v23, v24, .int .i64 (j : Nat), v26, v27, v28, v29, v30, v31, v32, v33, v34, v35, v36, v37, v38, v39, v40, v41, v42, v43, v44, v45, v46, v47, v48, v49, v50, v51, v52, v53, v54, v55, v56, v57, v58, v59, v60, v61, v62, v63, v64, v65, v66, v67, v68, v69, v70, v71, v72, v73, v74, v75, v76, v77, v78, v79, v80, v81, v82, v83, v84, v85, v86, v87, v88, v89, v90, v91, v92, v93, v94, v95, v96, v97, v98, v99, v100, v101, v102, v103, v104, v105, v106, v107, v108, v109, v110, v111, v112, v113, v114, v115, v116, v117, v118, v119, v120, v121, v122, v123, v124, v125, v126, v127, v128, v129, v130, v131, v132, v133, v134, v135, v136, v137, v138, v139, v140, v141, v142, v143, v144, v145, v146, v147, v148, v149, v150, v151, v152, v153, v154, v155, v156, v157, v158, v159, u160, u161, u162, u163, u164, u165, u166, u167, u168, u169, u170, u171, u172, u173, u174, u175, u176, u177, u178, u179, u180, u181, u182, u183, u184, u185, u186, .bool false, v188, v189, v190, v191, v192, v193, v194, v195, v196, v197, v198, v199, v200, v201, v202, v203, v204, v205, v206, v207, v208, v209, v210, v211, v212, v213, v214, v215, v216, v217, v218, v219, v220, v221, v222, v223, v224, v225, v226, v227, v228, v229, v230, v231, v232], []⟩ wx) :
    (Code.region 19 #[{ dst := some 160, op := Op.load 27 (Operand.tmp 11), type := 27, pos := "laws.go:552", after := #[], guard := none },
      { dst := some 161, op := Op.move (Operand.tmp 10), type := 24, pos := "laws.go:552", after := #[], guard := none },
      { dst := some 162, op := Op.move (Operand.tmp 25), type := 3, pos := "laws.go:552", after := #[], guard := none },
      { dst := some 163, op := Op.indexAddr 24 (Operand.tmp 161) (Operand.tmp 162), type := 0, pos := "laws.go:552", after := #[{ on := 1, ground := Ground.data }, { on := 2, ground := Ground.data }], guard := none },
      { dst := some 164, op := Op.fieldAddr 44 (Operand.tmp 163) 0, type := 0, pos := "laws.go:552", after := #[{ on := 3, ground := Ground.data }], guard := none },
      { dst := some 165, op := Op.load 27 (Operand.tmp 164), type := 27, pos := "laws.go:552", after := #[{ on := 4, ground := Ground.data }], guard := none },
      { dst := some 166, op := Op.call { callee := Callee.value (Operand.func 32), args := #[Operand.tmp 160, Operand.tmp 165], argTypes := #[27, 27] }, type := 4, pos := "laws.go:552", after := #[{ on := 0, ground := Ground.data }, { on := 5, ground := Ground.data }], guard := none },
      { dst := some 167, op := Op.move (Operand.tmp 166), type := 4, pos := "laws.go:552", after := #[{ on := 6, ground := Ground.data }, { on := 6, ground := Ground.chain }], guard := none },
      { dst := some 168, op := Op.move (Operand.tmp 24), type := 3, pos := "laws.go:552", after := #[{ on := 7, ground := Ground.guard }], guard := some (7, true) },
      { dst := some 169, op := Op.binOp BinOp.lss 3 (Operand.tmp 168) (Operand.const (Value.int IntKind.i64 0)) 3, type := 4, pos := "laws.go:552", after := #[{ on := 8, ground := Ground.data }, { on := 7, ground := Ground.guard }], guard := some (7, true) },
      { dst := some 170, op := Op.move (Operand.tmp 169), type := 4, pos := "laws.go:552", after := #[{ on := 9, ground := Ground.data }, { on := 7, ground := Ground.chain }, { on := 7, ground := Ground.guard }], guard := some (7, true) },
      { dst := some 171, op := Op.move (Operand.tmp 10), type := 24, pos := "laws.go:552", after := #[{ on := 10, ground := Ground.guard }], guard := some (10, false) },
      { dst := some 172, op := Op.move (Operand.tmp 25), type := 3, pos := "laws.go:552", after := #[{ on := 10, ground := Ground.guard }], guard := some (10, false) },
      { dst := some 173, op := Op.indexAddr 24 (Operand.tmp 171) (Operand.tmp 172), type := 0, pos := "laws.go:552", after := #[{ on := 11, ground := Ground.data }, { on := 12, ground := Ground.data }, { on := 10, ground := Ground.guard }], guard := some (10, false) },
      { dst := some 174, op := Op.fieldAddr 44 (Operand.tmp 173) 0, type := 0, pos := "laws.go:552", after := #[{ on := 13, ground := Ground.data }, { on := 10, ground := Ground.guard }], guard := some (10, false) },
      { dst := some 175, op := Op.fieldAddr 27 (Operand.tmp 174) 0, type := 0, pos := "laws.go:552", after := #[{ on := 14, ground := Ground.data }, { on := 10, ground := Ground.guard }], guard := some (10, false) },
      { dst := some 176, op := Op.load 25 (Operand.tmp 175), type := 25, pos := "laws.go:552", after := #[{ on := 15, ground := Ground.data }, { on := 10, ground := Ground.guard }], guard := some (10, false) },
      { dst := some 177, op := Op.call { callee := Callee.builtin Builtin.len, args := #[Operand.tmp 176], argTypes := #[25] }, type := 3, pos := "laws.go:552", after := #[{ on := 16, ground := Ground.data }, { on := 10, ground := Ground.guard }], guard := some (10, false) },
      { dst := some 178, op := Op.move (Operand.tmp 10), type := 24, pos := "laws.go:552", after := #[{ on := 10, ground := Ground.guard }], guard := some (10, false) },
      { dst := some 179, op := Op.move (Operand.tmp 24), type := 3, pos := "laws.go:552", after := #[{ on := 10, ground := Ground.guard }], guard := some (10, false) },
      { dst := some 180, op := Op.indexAddr 24 (Operand.tmp 178) (Operand.tmp 179), type := 0, pos := "laws.go:552", after := #[{ on := 18, ground := Ground.data }, { on := 19, ground := Ground.data }, { on := 10, ground := Ground.guard }], guard := some (10, false) },
      { dst := some 181, op := Op.fieldAddr 44 (Operand.tmp 180) 0, type := 0, pos := "laws.go:552", after := #[{ on := 20, ground := Ground.data }, { on := 10, ground := Ground.guard }], guard := some (10, false) },
      { dst := some 182, op := Op.fieldAddr 27 (Operand.tmp 181) 0, type := 0, pos := "laws.go:552", after := #[{ on := 21, ground := Ground.data }, { on := 10, ground := Ground.guard }], guard := some (10, false) },
      { dst := some 183, op := Op.load 25 (Operand.tmp 182), type := 25, pos := "laws.go:552", after := #[{ on := 22, ground := Ground.data }, { on := 10, ground := Ground.guard }], guard := some (10, false) },
      { dst := some 184, op := Op.call { callee := Callee.builtin Builtin.len, args := #[Operand.tmp 183], argTypes := #[25] }, type := 3, pos := "laws.go:552", after := #[{ on := 23, ground := Ground.data }, { on := 10, ground := Ground.guard }], guard := some (10, false) },
      { dst := some 185, op := Op.binOp BinOp.gtr 3 (Operand.tmp 177) (Operand.tmp 184) 3, type := 4, pos := "laws.go:552", after := #[{ on := 17, ground := Ground.data }, { on := 24, ground := Ground.data }, { on := 10, ground := Ground.guard }], guard := some (10, false) },
      { dst := some 186, op := Op.pick (Operand.tmp 170) (Operand.const (Value.bool true)) (Operand.tmp 185), type := 4, pos := "laws.go:552", after := #[{ on := 10, ground := Ground.data }, { on := 25, ground := Ground.data }, { on := 7, ground := Ground.guard }], guard := some (7, true) },
      { dst := some 187, op := Op.pick (Operand.tmp 167) (Operand.tmp 186) (Operand.const (Value.bool false)), type := 4, pos := "laws.go:552", after := #[{ on := 7, ground := Ground.data }, { on := 26, ground := Ground.data }], guard := none }] true).wp Try.prog Q ⟨#[v0, v1, v2, v3, v4, v5, v6, v7, v8, v9, .slice (some ⟨b, off, none⟩) n cx, .pointer (some ⟨p, 0, none⟩), v12, v13, v14, v15, v16, v17, v18, v19, v20, v21, v22, v23, v24, .int .i64 (j : Nat), v26, v27, v28, v29, v30, v31, v32, v33, v34, v35, v36, v37, v38, v39, v40, v41, v42, v43, v44, v45, v46, v47, v48, v49, v50, v51, v52, v53, v54, v55, v56, v57, v58, v59, v60, v61, v62, v63, v64, v65, v66, v67, v68, v69, v70, v71, v72, v73, v74, v75, v76, v77, v78, v79, v80, v81, v82, v83, v84, v85, v86, v87, v88, v89, v90, v91, v92, v93, v94, v95, v96, v97, v98, v99, v100, v101, v102, v103, v104, v105, v106, v107, v108, v109, v110, v111, v112, v113, v114, v115, v116, v117, v118, v119, v120, v121, v122, v123, v124, v125, v126, v127, v128, v129, v130, v131, v132, v133, v134, v135, v136, v137, v138, v139, v140, v141, v142, v143, v144, v145, v146, v147, v148, v149, v150, v151, v152, v153, v154, v155, v156, v157, v158, v159, v160, v161, v162, v163, v164, v165, v166, v167, v168, v169, v170, v171, v172, v173, v174, v175, v176, v177, v178, v179, v180, v181, v182, v183, v184, v185, v186, v187, v188, v189, v190, v191, v192, v193, v194, v195, v196, v197, v198, v199, v200, v201, v202, v203, v204, v205, v206, v207, v208, v209, v210, v211, v212, v213, v214, v215, v216, v217, v218, v219, v220, v221, v222, v223, v224, v225, v226, v227, v228, v229, v230, v231, v232], []⟩ w := by
  have HQ := Lib.hid hQ; clear hQ
  have hdr : Below w.heap.size w w.drew := (Below.refl _ _).drew
  have Cd_m := Lib.hid (C_m.out.on hdr)
  have Hd_m := Lib.hid (H_m.out.on hdr)
  have Hd_a := Lib.hid (H_a.out.on hdr)
  replace K1 := Lib.hid ((hdr.cell (cell_lt K1.out)).trans K1.out)
  have BB := Lib.hid hdr; clear hdr
  refine wp_region_noPanic ?_
  refine wp_region_held_drew (S := (fun w' => w'.cell? ⟨p, 0, none⟩ = some (.slice xm nm cm) ∧ w'.cell? ⟨b, off + j * 2, none⟩ = some (.slice xa na ca))) (by kernel_rfl) ?_ (fun hHeld => ?_)
  · exact ⟨Cd_m.out.cell, K1.out⟩
  refine wpAnyH_take (i := 0) (oi := { dst := some 160, op := Op.load 27 (Operand.tmp 11), type := 27, pos := "laws.go:552", after := #[], guard := none }) (v := ?_) rfl (by kernel_rfl) (by kernel_rfl) (by kernel_rfl) (fun _ _ _ h => h) (Or.inl ⟨by rfl, ?_⟩) (by assumption) ?_
  rotate_left
  · intro w' hSw; (try dsimp only at hSw); first | (go_simp; done) | (go_simp; with_reducible rfl)
  (try simp only [Act.put, List.setIfInBounds_toArray, List.set_cons_zero, List.set_cons_succ])
  refine wpAnyH_take (i := 1) (oi := { dst := some 161, op := Op.move (Operand.tmp 10), type := 24, pos := "laws.go:552", after := #[], guard := none }) (v := ?_) rfl (by kernel_rfl) (by kernel_rfl) (by kernel_rfl) (fun _ _ _ h => h) (Or.inl ⟨by rfl, ?_⟩) (by assumption) ?_
  rotate_left
  · intro w' hSw; (try dsimp only at hSw); first | (go_simp; done) | (go_simp; with_reducible rfl)
  (try simp only [Act.put, List.setIfInBounds_toArray, List.set_cons_zero, List.set_cons_succ])
  refine wpAnyH_take (i := 2) (oi := { dst := some 162, op := Op.move (Operand.tmp 25), type := 3, pos := "laws.go:552", after := #[], guard := none }) (v := ?_) rfl (by kernel_rfl) (by kernel_rfl) (by kernel_rfl) (fun _ _ _ h => h) (Or.inl ⟨by rfl, ?_⟩) (by assumption) ?_
  rotate_left
  · intro w' hSw; (try dsimp only at hSw); first | (go_simp; done) | (go_simp; with_reducible rfl)
  (try simp only [Act.put, List.setIfInBounds_toArray, List.set_cons_zero, List.set_cons_succ])
  refine wpAnyH_take (i := 3) (oi := { dst := some 163, op := Op.indexAddr 24 (Operand.tmp 161) (Operand.tmp 162), type := 0, pos := "laws.go:552", after := #[{ on := 1, ground := Ground.data }, { on := 2, ground := Ground.data }], guard := none }) (v := ?_) rfl (by kernel_rfl) (by kernel_rfl) (by kernel_rfl) (fun _ _ _ h => h) (Or.inl ⟨by rfl, ?_⟩) (by assumption) ?_
  rotate_left
  · intro w' hSw; (try dsimp only at hSw); first | (go_simp; done) | (go_simp; with_reducible rfl)
  (try simp only [Act.put, List.setIfInBounds_toArray, List.set_cons_zero, List.set_cons_succ])
  refine wpAnyH_take (i := 4) (oi := { dst := some 164, op := Op.fieldAddr 44 (Operand.tmp 163) 0, type := 0, pos := "laws.go:552", after := #[{ on := 3, ground := Ground.data }], guard := none }) (v := ?_) rfl (by kernel_rfl) (by kernel_rfl) (by kernel_rfl) (fun _ _ _ h => h) (Or.inl ⟨by rfl, ?_⟩) (by assumption) ?_
  rotate_left
  · intro w' hSw; (try dsimp only at hSw); first | (go_simp; done) | (go_simp; with_reducible rfl)
  (try simp only [Act.put, List.setIfInBounds_toArray, List.set_cons_zero, List.set_cons_succ])
  refine wpAnyH_take (i := 5) (oi := { dst := some 165, op := Op.load 27 (Operand.tmp 164), type := 27, pos := "laws.go:552", after := #[{ on := 4, ground := Ground.data }], guard := none }) (v := ?_) rfl (by kernel_rfl) (by kernel_rfl) (by kernel_rfl) (fun _ _ _ h => h) (Or.inl ⟨by rfl, ?_⟩) (by assumption) ?_
  rotate_left
  · intro w' hSw; (try dsimp only at hSw); first | (go_simp; done) | (go_simp; with_reducible rfl)
  (try simp only [Act.put, List.setIfInBounds_toArray, List.set_cons_zero, List.set_cons_succ])
  refine wpAnyH_ready (rs := [6]) (by kernel_rfl) (by simp) ?_
  refine AllReadyH.cons (o := { dst := some 166, op := Op.call { callee := Callee.value (Operand.func 32), args := #[Operand.tmp 160, Operand.tmp 165], argTypes := #[27, 27] }, type := 4, pos := "laws.go:552", after := #[{ on := 0, ground := Ground.data }, { on := 5, ground := Ground.data }], guard := none }) rfl (fun K hK => ?_) AllReadyH.nil
  go_simp
  refine (iHpV false HV.out Hd_m.out Hd_a.out HM.out HL.out).mono ?_
  rintro e wx ⟨rfl, hb⟩
  replace Cd_m := Lib.hid (Cd_m.out.on hb)
  replace Hd_m := Lib.hid (Hd_m.out.on hb)
  replace Hd_a := Lib.hid (Hd_a.out.on hb)
  replace K1 := Lib.hid ((hb.cell (cell_lt K1.out)).trans K1.out)
  replace BB := Lib.hid (BB.out.trans (hb.mono BB.out.size)); clear hb
  (try go_wp2_with fail)
  clear hHeld
  refine hK.out _ _ ?_ (fun hHeld => ?_)
  · (try dsimp only); exact ⟨Cd_m.out.cell, K1.out⟩
  clear hK K
  (try simp only [Act.put, List.setIfInBounds_toArray, List.set_cons_zero, List.set_cons_succ])
  refine wpAnyH_take (i := 7) (oi := { dst := some 167, op := Op.move (Operand.tmp 166), type := 4, pos := "laws.go:552", after := #[{ on := 6, ground := Ground.data }, { on := 6, ground := Ground.chain }], guard := none }) (v := ?_) rfl (by kernel_rfl) (by kernel_rfl) (by kernel_rfl) (fun _ _ _ h => h) (Or.inl ⟨by rfl, ?_⟩) (by assumption) ?_
  rotate_left
  · intro w' hSw; (try dsimp only at hSw); first | (go_simp; done) | (go_simp; with_reducible rfl)
  (try simp only [Act.put, List.setIfInBounds_toArray, List.set_cons_zero, List.set_cons_succ])
  refine wpAnyH_take (i := 8) (oi := { dst := some 168, op := Op.move (Operand.tmp 24), type := 3, pos := "laws.go:552", after := #[{ on := 7, ground := Ground.guard }], guard := some (7, true) }) (v := undef) rfl (by kernel_rfl) (by kernel_rfl) (by kernel_rfl) (fun _ _ _ h => h) (Or.inr ⟨by rfl, rfl⟩) (by assumption) ?_
  (try simp only [Act.put, List.setIfInBounds_toArray, List.set_cons_zero, List.set_cons_succ])
  refine wpAnyH_take (i := 9) (oi := { dst := some 169, op := Op.binOp BinOp.lss 3 (Operand.tmp 168) (Operand.const (Value.int IntKind.i64 0)) 3, type := 4, pos := "laws.go:552", after := #[{ on := 8, ground := Ground.data }, { on := 7, ground := Ground.guard }], guard := some (7, true) }) (v := undef) rfl (by kernel_rfl) (by kernel_rfl) (by kernel_rfl) (fun _ _ _ h => h) (Or.inr ⟨by rfl, rfl⟩) (by assumption) ?_
  (try simp only [Act.put, List.setIfInBounds_toArray, List.set_cons_zero, List.set_cons_succ])
  refine wpAnyH_take (i := 10) (oi := { dst := some 170, op := Op.move (Operand.tmp 169), type := 4, pos := "laws.go:552", after := #[{ on := 9, ground := Ground.data }, { on := 7, ground := Ground.chain }, { on := 7, ground := Ground.guard }], guard := some (7, true) }) (v := undef) rfl (by kernel_rfl) (by kernel_rfl) (by kernel_rfl) (fun _ _ _ h => h) (Or.inr ⟨by rfl, rfl⟩) (by assumption) ?_
  (try simp only [Act.put, List.setIfInBounds_toArray, List.set_cons_zero, List.set_cons_succ])
  refine wpAnyH_take (i := 11) (oi := { dst := some 171, op := Op.move (Operand.tmp 10), type := 24, pos := "laws.go:552", after := #[{ on := 10, ground := Ground.guard }], guard := some (10, false) }) (v := undef) rfl (by kernel_rfl) (by kernel_rfl) (by kernel_rfl) (fun _ _ _ h => h) (Or.inr ⟨by rfl, rfl⟩) (by assumption) ?_
  (try simp only [Act.put, List.setIfInBounds_toArray, List.set_cons_zero, List.set_cons_succ])
  refine wpAnyH_take (i := 12) (oi := { dst := some 172, op := Op.move (Operand.tmp 25), type := 3, pos := "laws.go:552", after := #[{ on := 10, ground := Ground.guard }], guard := some (10, false) }) (v := undef) rfl (by kernel_rfl) (by kernel_rfl) (by kernel_rfl) (fun _ _ _ h => h) (Or.inr ⟨by rfl, rfl⟩) (by assumption) ?_
  (try simp only [Act.put, List.setIfInBounds_toArray, List.set_cons_zero, List.set_cons_succ])
  refine wpAnyH_take (i := 13) (oi := { dst := some 173, op := Op.indexAddr 24 (Operand.tmp 171) (Operand.tmp 172), type := 0, pos := "laws.go:552", after := #[{ on := 11, ground := Ground.data }, { on := 12, ground := Ground.data }, { on := 10, ground := Ground.guard }], guard := some (10, false) }) (v := undef) rfl (by kernel_rfl) (by kernel_rfl) (by kernel_rfl) (fun _ _ _ h => h) (Or.inr ⟨by rfl, rfl⟩) (by assumption) ?_
  (try simp only [Act.put, List.setIfInBounds_toArray, List.set_cons_zero, List.set_cons_succ])
  refine wpAnyH_take (i := 14) (oi := { dst := some 174, op := Op.fieldAddr 44 (Operand.tmp 173) 0, type := 0, pos := "laws.go:552", after := #[{ on := 13, ground := Ground.data }, { on := 10, ground := Ground.guard }], guard := some (10, false) }) (v := undef) rfl (by kernel_rfl) (by kernel_rfl) (by kernel_rfl) (fun _ _ _ h => h) (Or.inr ⟨by rfl, rfl⟩) (by assumption) ?_
  (try simp only [Act.put, List.setIfInBounds_toArray, List.set_cons_zero, List.set_cons_succ])
  refine wpAnyH_take (i := 15) (oi := { dst := some 175, op := Op.fieldAddr 27 (Operand.tmp 174) 0, type := 0, pos := "laws.go:552", after := #[{ on := 14, ground := Ground.data }, { on := 10, ground := Ground.guard }], guard := some (10, false) }) (v := undef) rfl (by kernel_rfl) (by kernel_rfl) (by kernel_rfl) (fun _ _ _ h => h) (Or.inr ⟨by rfl, rfl⟩) (by assumption) ?_
  (try simp only [Act.put, List.setIfInBounds_toArray, List.set_cons_zero, List.set_cons_succ])
  refine wpAnyH_take (i := 16) (oi := { dst := some 176, op := Op.load 25 (Operand.tmp 175), type := 25, pos := "laws.go:552", after := #[{ on := 15, ground := Ground.data }, { on := 10, ground := Ground.guard }], guard := some (10, false) }) (v := undef) rfl (by kernel_rfl) (by kernel_rfl) (by kernel_rfl) (fun _ _ _ h => h) (Or.inr ⟨by rfl, rfl⟩) (by assumption) ?_
  (try simp only [Act.put, List.setIfInBounds_toArray, List.set_cons_zero, List.set_cons_succ])
  refine wpAnyH_take (i := 17) (oi := { dst := some 177, op := Op.call { callee := Callee.builtin Builtin.len, args := #[Operand.tmp 176], argTypes := #[25] }, type := 3, pos := "laws.go:552", after := #[{ on := 16, ground := Ground.data }, { on := 10, ground := Ground.guard }], guard := some (10, false) }) (v := undef) rfl (by kernel_rfl) (by kernel_rfl) (by kernel_rfl) (fun _ _ _ h => h) (Or.inr ⟨by rfl, rfl⟩) (by assumption) ?_
  (try simp only [Act.put, List.setIfInBounds_toArray, List.set_cons_zero, List.set_cons_succ])
  refine wpAnyH_take (i := 18) (oi := { dst := some 178, op := Op.move (Operand.tmp 10), type := 24, pos := "laws.go:552", after := #[{ on := 10, ground := Ground.guard }], guard := some (10, false) }) (v := undef) rfl (by kernel_rfl) (by kernel_rfl) (by kernel_rfl) (fun _ _ _ h => h) (Or.inr ⟨by rfl, rfl⟩) (by assumption) ?_
  (try simp only [Act.put, List.setIfInBounds_toArray, List.set_cons_zero, List.set_cons_succ])
  refine wpAnyH_take (i := 19) (oi := { dst := some 179, op := Op.move (Operand.tmp 24), type := 3, pos := "laws.go:552", after := #[{ on := 10, ground := Ground.guard }], guard := some (10, false) }) (v := undef) rfl (by kernel_rfl) (by kernel_rfl) (by kernel_rfl) (fun _ _ _ h => h) (Or.inr ⟨by rfl, rfl⟩) (by assumption) ?_
  (try simp only [Act.put, List.setIfInBounds_toArray, List.set_cons_zero, List.set_cons_succ])
  refine wpAnyH_take (i := 20) (oi := { dst := some 180, op := Op.indexAddr 24 (Operand.tmp 178) (Operand.tmp 179), type := 0, pos := "laws.go:552", after := #[{ on := 18, ground := Ground.data }, { on := 19, ground := Ground.data }, { on := 10, ground := Ground.guard }], guard := some (10, false) }) (v := undef) rfl (by kernel_rfl) (by kernel_rfl) (by kernel_rfl) (fun _ _ _ h => h) (Or.inr ⟨by rfl, rfl⟩) (by assumption) ?_
  (try simp only [Act.put, List.setIfInBounds_toArray, List.set_cons_zero, List.set_cons_succ])
  refine wpAnyH_take (i := 21) (oi := { dst := some 181, op := Op.fieldAddr 44 (Operand.tmp 180) 0, type := 0, pos := "laws.go:552", after := #[{ on := 20, ground := Ground.data }, { on := 10, ground := Ground.guard }], guard := some (10, false) }) (v := undef) rfl (by kernel_rfl) (by kernel_rfl) (by kernel_rfl) (fun _ _ _ h => h) (Or.inr ⟨by rfl, rfl⟩) (by assumption) ?_
  (try simp only [Act.put, List.setIfInBounds_toArray, List.set_cons_zero, List.set_cons_succ])
  refine wpAnyH_take (i := 22) (oi := { dst := some 182, op := Op.fieldAddr 27 (Operand.tmp 181) 0, type := 0, pos := "laws.go:552", after := #[{ on := 21, ground := Ground.data }, { on := 10, ground := Ground.guard }], guard := some (10, false) }) (v := undef) rfl (by kernel_rfl) (by kernel_rfl) (by kernel_rfl) (fun _ _ _ h => h) (Or.inr ⟨by rfl, rfl⟩) (by assumption) ?_
  (try simp only [Act.put, List.setIfInBounds_toArray, List.set_cons_zero, List.set_cons_succ])
  refine wpAnyH_take (i := 23) (oi := { dst := some 183, op := Op.load 25 (Operand.tmp 182), type := 25, pos := "laws.go:552", after := #[{ on := 22, ground := Ground.data }, { on := 10, ground := Ground.guard }], guard := some (10, false) }) (v := undef) rfl (by kernel_rfl) (by kernel_rfl) (by kernel_rfl) (fun _ _ _ h => h) (Or.inr ⟨by rfl, rfl⟩) (by assumption) ?_
  (try simp only [Act.put, List.setIfInBounds_toArray, List.set_cons_zero, List.set_cons_succ])
  refine wpAnyH_take (i := 24) (oi := { dst := some 184, op := Op.call { callee := Callee.builtin Builtin.len, args := #[Operand.tmp 183], argTypes := #[25] }, type := 3, pos := "laws.go:552", after := #[{ on := 23, ground := Ground.data }, { on := 10, ground := Ground.guard }], guard := some (10, false) }) (v := undef) rfl (by kernel_rfl) (by kernel_rfl) (by kernel_rfl) (fun _ _ _ h => h) (Or.inr ⟨by rfl, rfl⟩) (by assumption) ?_
  (try simp only [Act.put, List.setIfInBounds_toArray, List.set_cons_zero, List.set_cons_succ])
  refine wpAnyH_take (i := 25) (oi := { dst := some 185, op := Op.binOp BinOp.gtr 3 (Operand.tmp 177) (Operand.tmp 184) 3, type := 4, pos := "laws.go:552", after := #[{ on := 17, ground := Ground.data }, { on := 24, ground := Ground.data }, { on := 10, ground := Ground.guard }], guard := some (10, false) }) (v := undef) rfl (by kernel_rfl) (by kernel_rfl) (by kernel_rfl) (fun _ _ _ h => h) (Or.inr ⟨by rfl, rfl⟩) (by assumption) ?_
  (try simp only [Act.put, List.setIfInBounds_toArray, List.set_cons_zero, List.set_cons_succ])
  refine wpAnyH_take (i := 26) (oi := { dst := some 186, op := Op.pick (Operand.tmp 170) (Operand.const (Value.bool true)) (Operand.tmp 185), type := 4, pos := "laws.go:552", after := #[{ on := 10, ground := Ground.data }, { on := 25, ground := Ground.data }, { on := 7, ground := Ground.guard }], guard := some (7, true) }) (v := undef) rfl (by kernel_rfl) (by kernel_rfl) (by kernel_rfl) (fun _ _ _ h => h) (Or.inr ⟨by rfl, rfl⟩) (by assumption) ?_
  (try simp only [Act.put, List.setIfInBounds_toArray, List.set_cons_zero, List.set_cons_succ])
  refine wpAnyH_take (i := 27) (oi := { dst := some 187, op := Op.pick (Operand.tmp 167) (Operand.tmp 186) (Operand.const (Value.bool false)), type := 4, pos := "laws.go:552", after := #[{ on := 7, ground := Ground.data }, { on := 26, ground := Ground.data }], guard := none }) (v := ?_) rfl (by kernel_rfl) (by kernel_rfl) (by kernel_rfl) (fun _ _ _ h => h) (Or.inl ⟨by rfl, ?_⟩) (by assumption) ?_
  rotate_left
  · intro w' hSw; (try dsimp only at hSw); first | (go_simp; done) | (go_simp; with_reducible rfl)
  (try simp only [Act.put, List.setIfInBounds_toArray, List.set_cons_zero, List.set_cons_succ])
  refine wpAnyH_done (by kernel_rfl) ?_ _
  exact NoPanic.normal (HQ.out _ _ _ _ _ _ _ _ _ _ _ _ _ _ _ _ _ _ _ _ _ _ _ _ _ _ _ _ BB.out)

set_option maxRecDepth 100000 in
set_option maxHeartbeats 4000000 in
theorem regT19b {Q : Exit → Act → World → Prop} {v0 v1 v2 v3 v4 v5 v6 v7 v8 v9 v12 v13 v14 v15 v16 v17 v18 v19 v20 v21 v22 v23 v26 v27 v28 v29 v30 v31 v32 v33 v34 v35 v36 v37 v38 v39 v40 v41 v42 v43 v44 v45 v46 v47 v48 v49 v50 v51 v52 v53 v54 v55 v56 v57 v58 v59 v60 v61 v62 v63 v64 v65 v66 v67 v68 v69 v70 v71 v72 v73 v74 v75 v76 v77 v78 v79 v80 v81 v82 v83 v84 v85 v86 v87 v88 v89 v90 v91 v92 v93 v94 v95 v96 v97 v98 v99 v100 v101 v102 v103 v104 v105 v106 v107 v108 v109 v110 v111 v112 v113 v114 v115 v116 v117 v118 v119 v120 v121 v122 v123 v124 v125 v126 v127 v128 v129 v130 v131 v132 v133 v134 v135 v136 v137 v138 v139 v140 v141 v142 v143 v144 v145 v146 v147 v148 v149 v150 v151 v152 v153 v154 v155 v156 v157 v158 v159 v160 v161 v162 v163 v164 v165 v166 v167 v168 v169 v170 v171 v172 v173 v174 v175 v176 v177 v178 v179 v180 v181 v182 v183 v184 v185 v186 v187 v188 v189 v190 v191 v192 v193 v194 v195 v196 v197 v198 v199 v200 v201 v202 v203 v204 v205 v206 v207 v208 v209 v210 v211 v212 v213 v214 v215 v216 v217 v218 v219 v220 v221 v222 v223 v224 v225 v226 v227 v228 v229 v230 v231 v232 : Value} {w : World} {p : Nat} {xm : Option Addr} {nm cm : Nat} {lm : List ByteArray} (C_m : Hid (Ret.Box w p (.slice xm nm cm) 27)) (H_m : Hid (Holds Value.string w (.slice xm nm cm) lm)) (HM : Hid (lm.length ≤ 9000000)) {b off n cx j na ca : Nat} {xa : Option Addr} {la : List ByteArray} (hj : j < n) (hn : n ≤ 1000) (K1 : Hid (w.cell? ⟨b, off + j * 2, none⟩ = some (.slice xa na ca))) (H_a : Hid (Holds Value.string w (.slice xa na ca) la)) (HL : Hid (la.length ≤ 9000000)) {k nk ck : Nat} {xk : Option Addr} (hk : k < n) (hkn : decide (((k : Nat) : Int) < 0) = false) (hle : ¬ nk < na) (K2 : Hid (w.cell? ⟨b, off + k * 2, none⟩ = some (.slice xk nk ck))) (HV : Hid (hpB lm la = true))
    (hQ : ∀ (u160 u161 u162 u163 u164 u165 u166 u167 u168 u169 u170 u171 u172 u173 u174 u175 u176 u177 u178 u179 u180 u181 u182 u183 u184 u185 u186 : Value) (wx : World), Below w.heap.size w wx → Q .normal ⟨#[v0, v1, v2, v3, v4, v5, v6, v7, v8, v9, .slice (some ⟨b, off, none⟩) n cx, .pointer (some ⟨p, 0, none⟩), v12, v13, v14, v15, v16, v17, v18, v19, v20, v21, v22, v23, .int .i64 (k : Nat), .int .i64 (j : Nat), v26, v27, v28, v29, v30, v31, v32, v33, v34, v35, v36, v37, v38, v39, v40, v41, v42, v43, v44, v45, v46, v47, v48, v49, v50, v51, v52, v53, v54, v55, v56, v57, v58, v59, v60, v61, v62, v63, v64, v65, v66, v67, v68, v69, v70, v71, v72, v73, v74, v75, v76, v77, v78, v79, v80, v81, v82, v83, v84, v85, v86, v87, v88, v89, v90, v91, v92, v93, v94, v95, v96, v97, v98, v99, v100, v101, v102, v103, v104, v105, v106, v107, v108, v109, v110, v111, v112, v113, v114, v115, v116, v117, v118, v119, v120, v121, v122, v123, v124, v125, v126, v127, v128, v129, v130, v131, v132, v133, v134, v135, v136, v137, v138, v139, v140, v141, v142, v143, v144, v145, v146, v147, v148, v149, v150, v151, v152, v153, v154, v155, v156, v157, v158, v159, u160, u161, u162, u163, u164, u165, u166, u167, u168, u169, u170, u171, u172, u173, u174, u175, u176, u177, u178, u179, u180, u181, u182, u183, u184, u185, u186, .bool false, v188, v189, v190, v191, v192, v193, v194, v195, v196, v197, v198, v199, v200, v201, v202, v203, v204, v205, v206, v207, v208, v209, v210, v211, v212, v213, v214, v215, v216, v217, v218, v219, v220, v221, v222, v223, v224, v225, v226, v227, v228, v229, v230, v231, v232], []⟩ wx) :
    (Code.region 19 #[{ dst := some 160, op := Op.load 27 (Operand.tmp 11), type := 27, pos := "laws.go:552", after := #[], guard := none },
      { dst := some 161, op := Op.move (Operand.tmp 10), type := 24, pos := "laws.go:552", after := #[], guard := none },
      { dst := some 162, op := Op.move (Operand.tmp 25), type := 3, pos := "laws.go:552", after := #[], guard := none },
      { dst := some 163, op := Op.indexAddr 24 (Operand.tmp 161) (Operand.tmp 162), type := 0, pos := "laws.go:552", after := #[{ on := 1, ground := Ground.data }, { on := 2, ground := Ground.data }], guard := none },
      { dst := some 164, op := Op.fieldAddr 44 (Operand.tmp 163) 0, type := 0, pos := "laws.go:552", after := #[{ on := 3, ground := Ground.data }], guard := none },
      { dst := some 165, op := Op.load 27 (Operand.tmp 164), type := 27, pos := "laws.go:552", after := #[{ on := 4, ground := Ground.data }], guard := none },
      { dst := some 166, op := Op.call { callee := Callee.value (Operand.func 32), args := #[Operand.tmp 160, Operand.tmp 165], argTypes := #[27, 27] }, type := 4, pos := "laws.go:552", after := #[{ on := 0, ground := Ground.data }, { on := 5, ground := Ground.data }], guard := none },
      { dst := some 167, op := Op.move (Operand.tmp 166), type := 4, pos := "laws.go:552", after := #[{ on := 6, ground := Ground.data }, { on := 6, ground := Ground.chain }], guard := none },
      { dst := some 168, op := Op.move (Operand.tmp 24), type := 3, pos := "laws.go:552", after := #[{ on := 7, ground := Ground.guard }], guard := some (7, true) },
      { dst := some 169, op := Op.binOp BinOp.lss 3 (Operand.tmp 168) (Operand.const (Value.int IntKind.i64 0)) 3, type := 4, pos := "laws.go:552", after := #[{ on := 8, ground := Ground.data }, { on := 7, ground := Ground.guard }], guard := some (7, true) },
      { dst := some 170, op := Op.move (Operand.tmp 169), type := 4, pos := "laws.go:552", after := #[{ on := 9, ground := Ground.data }, { on := 7, ground := Ground.chain }, { on := 7, ground := Ground.guard }], guard := some (7, true) },
      { dst := some 171, op := Op.move (Operand.tmp 10), type := 24, pos := "laws.go:552", after := #[{ on := 10, ground := Ground.guard }], guard := some (10, false) },
      { dst := some 172, op := Op.move (Operand.tmp 25), type := 3, pos := "laws.go:552", after := #[{ on := 10, ground := Ground.guard }], guard := some (10, false) },
      { dst := some 173, op := Op.indexAddr 24 (Operand.tmp 171) (Operand.tmp 172), type := 0, pos := "laws.go:552", after := #[{ on := 11, ground := Ground.data }, { on := 12, ground := Ground.data }, { on := 10, ground := Ground.guard }], guard := some (10, false) },
      { dst := some 174, op := Op.fieldAddr 44 (Operand.tmp 173) 0, type := 0, pos := "laws.go:552", after := #[{ on := 13, ground := Ground.data }, { on := 10, ground := Ground.guard }], guard := some (10, false) },
      { dst := some 175, op := Op.fieldAddr 27 (Operand.tmp 174) 0, type := 0, pos := "laws.go:552", after := #[{ on := 14, ground := Ground.data }, { on := 10, ground := Ground.guard }], guard := some (10, false) },
      { dst := some 176, op := Op.load 25 (Operand.tmp 175), type := 25, pos := "laws.go:552", after := #[{ on := 15, ground := Ground.data }, { on := 10, ground := Ground.guard }], guard := some (10, false) },
      { dst := some 177, op := Op.call { callee := Callee.builtin Builtin.len, args := #[Operand.tmp 176], argTypes := #[25] }, type := 3, pos := "laws.go:552", after := #[{ on := 16, ground := Ground.data }, { on := 10, ground := Ground.guard }], guard := some (10, false) },
      { dst := some 178, op := Op.move (Operand.tmp 10), type := 24, pos := "laws.go:552", after := #[{ on := 10, ground := Ground.guard }], guard := some (10, false) },
      { dst := some 179, op := Op.move (Operand.tmp 24), type := 3, pos := "laws.go:552", after := #[{ on := 10, ground := Ground.guard }], guard := some (10, false) },
      { dst := some 180, op := Op.indexAddr 24 (Operand.tmp 178) (Operand.tmp 179), type := 0, pos := "laws.go:552", after := #[{ on := 18, ground := Ground.data }, { on := 19, ground := Ground.data }, { on := 10, ground := Ground.guard }], guard := some (10, false) },
      { dst := some 181, op := Op.fieldAddr 44 (Operand.tmp 180) 0, type := 0, pos := "laws.go:552", after := #[{ on := 20, ground := Ground.data }, { on := 10, ground := Ground.guard }], guard := some (10, false) },
      { dst := some 182, op := Op.fieldAddr 27 (Operand.tmp 181) 0, type := 0, pos := "laws.go:552", after := #[{ on := 21, ground := Ground.data }, { on := 10, ground := Ground.guard }], guard := some (10, false) },
      { dst := some 183, op := Op.load 25 (Operand.tmp 182), type := 25, pos := "laws.go:552", after := #[{ on := 22, ground := Ground.data }, { on := 10, ground := Ground.guard }], guard := some (10, false) },
      { dst := some 184, op := Op.call { callee := Callee.builtin Builtin.len, args := #[Operand.tmp 183], argTypes := #[25] }, type := 3, pos := "laws.go:552", after := #[{ on := 23, ground := Ground.data }, { on := 10, ground := Ground.guard }], guard := some (10, false) },
      { dst := some 185, op := Op.binOp BinOp.gtr 3 (Operand.tmp 177) (Operand.tmp 184) 3, type := 4, pos := "laws.go:552", after := #[{ on := 17, ground := Ground.data }, { on := 24, ground := Ground.data }, { on := 10, ground := Ground.guard }], guard := some (10, false) },
      { dst := some 186, op := Op.pick (Operand.tmp 170) (Operand.const (Value.bool true)) (Operand.tmp 185), type := 4, pos := "laws.go:552", after := #[{ on := 10, ground := Ground.data }, { on := 25, ground := Ground.data }, { on := 7, ground := Ground.guard }], guard := some (7, true) },
      { dst := some 187, op := Op.pick (Operand.tmp 167) (Operand.tmp 186) (Operand.const (Value.bool false)), type := 4, pos := "laws.go:552", after := #[{ on := 7, ground := Ground.data }, { on := 26, ground := Ground.data }], guard := none }] true).wp Try.prog Q ⟨#[v0, v1, v2, v3, v4, v5, v6, v7, v8, v9, .slice (some ⟨b, off, none⟩) n cx, .pointer (some ⟨p, 0, none⟩), v12, v13, v14, v15, v16, v17, v18, v19, v20, v21, v22, v23, .int .i64 (k : Nat), .int .i64 (j : Nat), v26, v27, v28, v29, v30, v31, v32, v33, v34, v35, v36, v37, v38, v39, v40, v41, v42, v43, v44, v45, v46, v47, v48, v49, v50, v51, v52, v53, v54, v55, v56, v57, v58, v59, v60, v61, v62, v63, v64, v65, v66, v67, v68, v69, v70, v71, v72, v73, v74, v75, v76, v77, v78, v79, v80, v81, v82, v83, v84, v85, v86, v87, v88, v89, v90, v91, v92, v93, v94, v95, v96, v97, v98, v99, v100, v101, v102, v103, v104, v105, v106, v107, v108, v109, v110, v111, v112, v113, v114, v115, v116, v117, v118, v119, v120, v121, v122, v123, v124, v125, v126, v127, v128, v129, v130, v131, v132, v133, v134, v135, v136, v137, v138, v139, v140, v141, v142, v143, v144, v145, v146, v147, v148, v149, v150, v151, v152, v153, v154, v155, v156, v157, v158, v159, v160, v161, v162, v163, v164, v165, v166, v167, v168, v169, v170, v171, v172, v173, v174, v175, v176, v177, v178, v179, v180, v181, v182, v183, v184, v185, v186, v187, v188, v189, v190, v191, v192, v193, v194, v195, v196, v197, v198, v199, v200, v201, v202, v203, v204, v205, v206, v207, v208, v209, v210, v211, v212, v213, v214, v215, v216, v217, v218, v219, v220, v221, v222, v223, v224, v225, v226, v227, v228, v229, v230, v231, v232], []⟩ w := by
  have HQ := Lib.hid hQ; clear hQ
  have hdr : Below w.heap.size w w.drew := (Below.refl _ _).drew
  have Cd_m := Lib.hid (C_m.out.on hdr)
  have Hd_m := Lib.hid (H_m.out.on hdr)
  have Hd_a := Lib.hid (H_a.out.on hdr)
  replace K1 := Lib.hid ((hdr.cell (cell_lt K1.out)).trans K1.out)
  replace K2 := Lib.hid ((hdr.cell (cell_lt K2.out)).trans K2.out)
  have BB := Lib.hid hdr; clear hdr
  refine wp_region_noPanic ?_
  refine wp_region_held_drew (S := (fun w' => w'.cell? ⟨p, 0, none⟩ = some (.slice xm nm cm) ∧ w'.cell? ⟨b, off + j * 2, none⟩ = some (.slice xa na ca) ∧ w'.cell? ⟨b, off + k * 2, none⟩ = some (.slice xk nk ck))) (by kernel_rfl) ?_ (fun hHeld => ?_)
  · exact ⟨Cd_m.out.cell, K1.out, K2.out⟩
  refine wpAnyH_take (i := 0) (oi := { dst := some 160, op := Op.load 27 (Operand.tmp 11), type := 27, pos := "laws.go:552", after := #[], guard := none }) (v := ?_) rfl (by kernel_rfl) (by kernel_rfl) (by kernel_rfl) (fun _ _ _ h => h) (Or.inl ⟨by rfl, ?_⟩) (by assumption) ?_
  rotate_left
  · intro w' hSw; (try dsimp only at hSw); first | (go_simp; done) | (go_simp; with_reducible rfl)
  (try simp only [Act.put, List.setIfInBounds_toArray, List.set_cons_zero, List.set_cons_succ])
  refine wpAnyH_take (i := 1) (oi := { dst := some 161, op := Op.move (Operand.tmp 10), type := 24, pos := "laws.go:552", after := #[], guard := none }) (v := ?_) rfl (by kernel_rfl) (by kernel_rfl) (by kernel_rfl) (fun _ _ _ h => h) (Or.inl ⟨by rfl, ?_⟩) (by assumption) ?_
  rotate_left
  · intro w' hSw; (try dsimp only at hSw); first | (go_simp; done) | (go_simp; with_reducible rfl)
  (try simp only [Act.put, List.setIfInBounds_toArray, List.set_cons_zero, List.set_cons_succ])
  refine wpAnyH_take (i := 2) (oi := { dst := some 162, op := Op.move (Operand.tmp 25), type := 3, pos := "laws.go:552", after := #[], guard := none }) (v := ?_) rfl (by kernel_rfl) (by kernel_rfl) (by kernel_rfl) (fun _ _ _ h => h) (Or.inl ⟨by rfl, ?_⟩) (by assumption) ?_
  rotate_left
  · intro w' hSw; (try dsimp only at hSw); first | (go_simp; done) | (go_simp; with_reducible rfl)
  (try simp only [Act.put, List.setIfInBounds_toArray, List.set_cons_zero, List.set_cons_succ])
  refine wpAnyH_take (i := 3) (oi := { dst := some 163, op := Op.indexAddr 24 (Operand.tmp 161) (Operand.tmp 162), type := 0, pos := "laws.go:552", after := #[{ on := 1, ground := Ground.data }, { on := 2, ground := Ground.data }], guard := none }) (v := ?_) rfl (by kernel_rfl) (by kernel_rfl) (by kernel_rfl) (fun _ _ _ h => h) (Or.inl ⟨by rfl, ?_⟩) (by assumption) ?_
  rotate_left
  · intro w' hSw; (try dsimp only at hSw); first | (go_simp; done) | (go_simp; with_reducible rfl)
  (try simp only [Act.put, List.setIfInBounds_toArray, List.set_cons_zero, List.set_cons_succ])
  refine wpAnyH_take (i := 4) (oi := { dst := some 164, op := Op.fieldAddr 44 (Operand.tmp 163) 0, type := 0, pos := "laws.go:552", after := #[{ on := 3, ground := Ground.data }], guard := none }) (v := ?_) rfl (by kernel_rfl) (by kernel_rfl) (by kernel_rfl) (fun _ _ _ h => h) (Or.inl ⟨by rfl, ?_⟩) (by assumption) ?_
  rotate_left
  · intro w' hSw; (try dsimp only at hSw); first | (go_simp; done) | (go_simp; with_reducible rfl)
  (try simp only [Act.put, List.setIfInBounds_toArray, List.set_cons_zero, List.set_cons_succ])
  refine wpAnyH_take (i := 5) (oi := { dst := some 165, op := Op.load 27 (Operand.tmp 164), type := 27, pos := "laws.go:552", after := #[{ on := 4, ground := Ground.data }], guard := none }) (v := ?_) rfl (by kernel_rfl) (by kernel_rfl) (by kernel_rfl) (fun _ _ _ h => h) (Or.inl ⟨by rfl, ?_⟩) (by assumption) ?_
  rotate_left
  · intro w' hSw; (try dsimp only at hSw); first | (go_simp; done) | (go_simp; with_reducible rfl)
  (try simp only [Act.put, List.setIfInBounds_toArray, List.set_cons_zero, List.set_cons_succ])
  refine wpAnyH_ready (rs := [6]) (by kernel_rfl) (by simp) ?_
  refine AllReadyH.cons (o := { dst := some 166, op := Op.call { callee := Callee.value (Operand.func 32), args := #[Operand.tmp 160, Operand.tmp 165], argTypes := #[27, 27] }, type := 4, pos := "laws.go:552", after := #[{ on := 0, ground := Ground.data }, { on := 5, ground := Ground.data }], guard := none }) rfl (fun K hK => ?_) AllReadyH.nil
  go_simp
  refine (iHpV true HV.out Hd_m.out Hd_a.out HM.out HL.out).mono ?_
  rintro e wx ⟨rfl, hb⟩
  replace Cd_m := Lib.hid (Cd_m.out.on hb)
  replace Hd_m := Lib.hid (Hd_m.out.on hb)
  replace Hd_a := Lib.hid (Hd_a.out.on hb)
  replace K1 := Lib.hid ((hb.cell (cell_lt K1.out)).trans K1.out)
  replace K2 := Lib.hid ((hb.cell (cell_lt K2.out)).trans K2.out)
  replace BB := Lib.hid (BB.out.trans (hb.mono BB.out.size)); clear hb
  (try go_wp2_with fail)
  clear hHeld
  refine hK.out _ _ ?_ (fun hHeld => ?_)
  · (try dsimp only); exact ⟨Cd_m.out.cell, K1.out, K2.out⟩
  clear hK K
  (try simp only [Act.put, List.setIfInBounds_toArray, List.set_cons_zero, List.set_cons_succ])
  refine wpAnyH_take (i := 7) (oi := { dst := some 167, op := Op.move (Operand.tmp 166), type := 4, pos := "laws.go:552", after := #[{ on := 6, ground := Ground.data }, { on := 6, ground := Ground.chain }], guard := none }) (v := ?_) rfl (by kernel_rfl) (by kernel_rfl) (by kernel_rfl) (fun _ _ _ h => h) (Or.inl ⟨by rfl, ?_⟩) (by assumption) ?_
  rotate_left
  · intro w' hSw; (try dsimp only at hSw); first | (go_simp; done) | (go_simp; with_reducible rfl)
  (try simp only [Act.put, List.setIfInBounds_toArray, List.set_cons_zero, List.set_cons_succ])
  refine wpAnyH_take (i := 8) (oi := { dst := some 168, op := Op.move (Operand.tmp 24), type := 3, pos := "laws.go:552", after := #[{ on := 7, ground := Ground.guard }], guard := some (7, true) }) (v := ?_) rfl (by kernel_rfl) (by kernel_rfl) (by kernel_rfl) (fun _ _ _ h => h) (Or.inl ⟨by rfl, ?_⟩) (by assumption) ?_
  rotate_left
  · intro w' hSw; (try dsimp only at hSw); first | (go_simp; done) | (go_simp; with_reducible rfl)
  (try simp only [Act.put, List.setIfInBounds_toArray, List.set_cons_zero, List.set_cons_succ])
  refine wpAnyH_take (i := 9) (oi := { dst := some 169, op := Op.binOp BinOp.lss 3 (Operand.tmp 168) (Operand.const (Value.int IntKind.i64 0)) 3, type := 4, pos := "laws.go:552", after := #[{ on := 8, ground := Ground.data }, { on := 7, ground := Ground.guard }], guard := some (7, true) }) (v := ?_) rfl (by kernel_rfl) (by kernel_rfl) (by kernel_rfl) (fun _ _ _ h => h) (Or.inl ⟨by rfl, ?_⟩) (by assumption) ?_
  rotate_left
  · intro w' hSw; (try dsimp only at hSw); first | (go_simp; done) | (go_simp; with_reducible rfl)
  (try simp only [Act.put, List.setIfInBounds_toArray, List.set_cons_zero, List.set_cons_succ])
  refine wpAnyH_take (i := 10) (oi := { dst := some 170, op := Op.move (Operand.tmp 169), type := 4, pos := "laws.go:552", after := #[{ on := 9, ground := Ground.data }, { on := 7, ground := Ground.chain }, { on := 7, ground := Ground.guard }], guard := some (7, true) }) (v := ?_) rfl (by kernel_rfl) (by kernel_rfl) (by kernel_rfl) (fun _ _ _ h => h) (Or.inl ⟨by rfl, ?_⟩) (by assumption) ?_
  rotate_left
  · intro w' hSw; (try dsimp only at hSw); first | (go_simp; done) | (go_simp; with_reducible rfl)
  (try simp only [Act.put, List.setIfInBounds_toArray, List.set_cons_zero, List.set_cons_succ])
  refine wpAnyH_take (i := 11) (oi := { dst := some 171, op := Op.move (Operand.tmp 10), type := 24, pos := "laws.go:552", after := #[{ on := 10, ground := Ground.guard }], guard := some (10, false) }) (v := ?_) rfl (by kernel_rfl) (by kernel_rfl) (by kernel_rfl) (fun _ _ _ h => h) (Or.inl ⟨by rfl, ?_⟩) (by assumption) ?_
  rotate_left
  · intro w' hSw; (try dsimp only at hSw); first | (go_simp; done) | (go_simp; with_reducible rfl)
  (try simp only [Act.put, List.setIfInBounds_toArray, List.set_cons_zero, List.set_cons_succ])
  refine wpAnyH_take (i := 12) (oi := { dst := some 172, op := Op.move (Operand.tmp 25), type := 3, pos := "laws.go:552", after := #[{ on := 10, ground := Ground.guard }], guard := some (10, false) }) (v := ?_) rfl (by kernel_rfl) (by kernel_rfl) (by kernel_rfl) (fun _ _ _ h => h) (Or.inl ⟨by rfl, ?_⟩) (by assumption) ?_
  rotate_left
  · intro w' hSw; (try dsimp only at hSw); first | (go_simp; done) | (go_simp; with_reducible rfl)
  (try simp only [Act.put, List.setIfInBounds_toArray, List.set_cons_zero, List.set_cons_succ])
  refine wpAnyH_take (i := 13) (oi := { dst := some 173, op := Op.indexAddr 24 (Operand.tmp 171) (Operand.tmp 172), type := 0, pos := "laws.go:552", after := #[{ on := 11, ground := Ground.data }, { on := 12, ground := Ground.data }, { on := 10, ground := Ground.guard }], guard := some (10, false) }) (v := ?_) rfl (by kernel_rfl) (by kernel_rfl) (by kernel_rfl) (fun _ _ _ h => h) (Or.inl ⟨by rfl, ?_⟩) (by assumption) ?_
  rotate_left
  · intro w' hSw; (try dsimp only at hSw); first | (go_simp; done) | (go_simp; with_reducible rfl)
  (try simp only [Act.put, List.setIfInBounds_toArray, List.set_cons_zero, List.set_cons_succ])
  refine wpAnyH_take (i := 14) (oi := { dst := some 174, op := Op.fieldAddr 44 (Operand.tmp 173) 0, type := 0, pos := "laws.go:552", after := #[{ on := 13, ground := Ground.data }, { on := 10, ground := Ground.guard }], guard := some (10, false) }) (v := ?_) rfl (by kernel_rfl) (by kernel_rfl) (by kernel_rfl) (fun _ _ _ h => h) (Or.inl ⟨by rfl, ?_⟩) (by assumption) ?_
  rotate_left
  · intro w' hSw; (try dsimp only at hSw); first | (go_simp; done) | (go_simp; with_reducible rfl)
  (try simp only [Act.put, List.setIfInBounds_toArray, List.set_cons_zero, List.set_cons_succ])
  refine wpAnyH_take (i := 15) (oi := { dst := some 175, op := Op.fieldAddr 27 (Operand.tmp 174) 0, type := 0, pos := "laws.go:552", after := #[{ on := 14, ground := Ground.data }, { on := 10, ground := Ground.guard }], guard := some (10, false) }) (v := ?_) rfl (by kernel_rfl) (by kernel_rfl) (by kernel_rfl) (fun _ _ _ h => h) (Or.inl ⟨by rfl, ?_⟩) (by assumption) ?_
  rotate_left
  · intro w' hSw; (try dsimp only at hSw); first | (go_simp; done) | (go_simp; with_reducible rfl)
  (try simp only [Act.put, List.setIfInBounds_toArray, List.set_cons_zero, List.set_cons_succ])
  refine wpAnyH_take (i := 16) (oi := { dst := some 176, op := Op.load 25 (Operand.tmp 175), type := 25, pos := "laws.go:552", after := #[{ on := 15, ground := Ground.data }, { on := 10, ground := Ground.guard }], guard := some (10, false) }) (v := ?_) rfl (by kernel_rfl) (by kernel_rfl) (by kernel_rfl) (fun _ _ _ h => h) (Or.inl ⟨by rfl, ?_⟩) (by assumption) ?_
  rotate_left
  · intro w' hSw; (try dsimp only at hSw); first | (go_simp; done) | (go_simp; with_reducible rfl)
  (try simp only [Act.put, List.setIfInBounds_toArray, List.set_cons_zero, List.set_cons_succ])
  refine wpAnyH_take (i := 17) (oi := { dst := some 177, op := Op.call { callee := Callee.builtin Builtin.len, args := #[Operand.tmp 176], argTypes := #[25] }, type := 3, pos := "laws.go:552", after := #[{ on := 16, ground := Ground.data }, { on := 10, ground := Ground.guard }], guard := some (10, false) }) (v := ?_) rfl (by kernel_rfl) (by kernel_rfl) (by kernel_rfl) (fun _ _ _ h => h) (Or.inl ⟨by rfl, ?_⟩) (by assumption) ?_
  rotate_left
  · intro w' hSw; (try dsimp only at hSw); first | (go_simp; done) | (go_simp; with_reducible rfl)
  (try simp only [Act.put, List.setIfInBounds_toArray, List.set_cons_zero, List.set_cons_succ])
  refine wpAnyH_take (i := 18) (oi := { dst := some 178, op := Op.move (Operand.tmp 10), type := 24, pos := "laws.go:552", after := #[{ on := 10, ground := Ground.guard }], guard := some (10, false) }) (v := ?_) rfl (by kernel_rfl) (by kernel_rfl) (by kernel_rfl) (fun _ _ _ h => h) (Or.inl ⟨by rfl, ?_⟩) (by assumption) ?_
  rotate_left
  · intro w' hSw; (try dsimp only at hSw); first | (go_simp; done) | (go_simp; with_reducible rfl)
  (try simp only [Act.put, List.setIfInBounds_toArray, List.set_cons_zero, List.set_cons_succ])
  refine wpAnyH_take (i := 19) (oi := { dst := some 179, op := Op.move (Operand.tmp 24), type := 3, pos := "laws.go:552", after := #[{ on := 10, ground := Ground.guard }], guard := some (10, false) }) (v := ?_) rfl (by kernel_rfl) (by kernel_rfl) (by kernel_rfl) (fun _ _ _ h => h) (Or.inl ⟨by rfl, ?_⟩) (by assumption) ?_
  rotate_left
  · intro w' hSw; (try dsimp only at hSw); first | (go_simp; done) | (go_simp; with_reducible rfl)
  (try simp only [Act.put, List.setIfInBounds_toArray, List.set_cons_zero, List.set_cons_succ])
  refine wpAnyH_take (i := 20) (oi := { dst := some 180, op := Op.indexAddr 24 (Operand.tmp 178) (Operand.tmp 179), type := 0, pos := "laws.go:552", after := #[{ on := 18, ground := Ground.data }, { on := 19, ground := Ground.data }, { on := 10, ground := Ground.guard }], guard := some (10, false) }) (v := ?_) rfl (by kernel_rfl) (by kernel_rfl) (by kernel_rfl) (fun _ _ _ h => h) (Or.inl ⟨by rfl, ?_⟩) (by assumption) ?_
  rotate_left
  · intro w' hSw; (try dsimp only at hSw); first | (go_simp; done) | (go_simp; with_reducible rfl)
  (try simp only [Act.put, List.setIfInBounds_toArray, List.set_cons_zero, List.set_cons_succ])
  refine wpAnyH_take (i := 21) (oi := { dst := some 181, op := Op.fieldAddr 44 (Operand.tmp 180) 0, type := 0, pos := "laws.go:552", after := #[{ on := 20, ground := Ground.data }, { on := 10, ground := Ground.guard }], guard := some (10, false) }) (v := ?_) rfl (by kernel_rfl) (by kernel_rfl) (by kernel_rfl) (fun _ _ _ h => h) (Or.inl ⟨by rfl, ?_⟩) (by assumption) ?_
  rotate_left
  · intro w' hSw; (try dsimp only at hSw); first | (go_simp; done) | (go_simp; with_reducible rfl)
  (try simp only [Act.put, List.setIfInBounds_toArray, List.set_cons_zero, List.set_cons_succ])
  refine wpAnyH_take (i := 22) (oi := { dst := some 182, op := Op.fieldAddr 27 (Operand.tmp 181) 0, type := 0, pos := "laws.go:552", after := #[{ on := 21, ground := Ground.data }, { on := 10, ground := Ground.guard }], guard := some (10, false) }) (v := ?_) rfl (by kernel_rfl) (by kernel_rfl) (by kernel_rfl) (fun _ _ _ h => h) (Or.inl ⟨by rfl, ?_⟩) (by assumption) ?_
  rotate_left
  · intro w' hSw; (try dsimp only at hSw); first | (go_simp; done) | (go_simp; with_reducible rfl)
  (try simp only [Act.put, List.setIfInBounds_toArray, List.set_cons_zero, List.set_cons_succ])
  refine wpAnyH_take (i := 23) (oi := { dst := some 183, op := Op.load 25 (Operand.tmp 182), type := 25, pos := "laws.go:552", after := #[{ on := 22, ground := Ground.data }, { on := 10, ground := Ground.guard }], guard := some (10, false) }) (v := ?_) rfl (by kernel_rfl) (by kernel_rfl) (by kernel_rfl) (fun _ _ _ h => h) (Or.inl ⟨by rfl, ?_⟩) (by assumption) ?_
  rotate_left
  · intro w' hSw; (try dsimp only at hSw); first | (go_simp; done) | (go_simp; with_reducible rfl)
  (try simp only [Act.put, List.setIfInBounds_toArray, List.set_cons_zero, List.set_cons_succ])
  refine wpAnyH_take (i := 24) (oi := { dst := some 184, op := Op.call { callee := Callee.builtin Builtin.len, args := #[Operand.tmp 183], argTypes := #[25] }, type := 3, pos := "laws.go:552", after := #[{ on := 23, ground := Ground.data }, { on := 10, ground := Ground.guard }], guard := some (10, false) }) (v := ?_) rfl (by kernel_rfl) (by kernel_rfl) (by kernel_rfl) (fun _ _ _ h => h) (Or.inl ⟨by rfl, ?_⟩) (by assumption) ?_
  rotate_left
  · intro w' hSw; (try dsimp only at hSw); first | (go_simp; done) | (go_simp; with_reducible rfl)
  (try simp only [Act.put, List.setIfInBounds_toArray, List.set_cons_zero, List.set_cons_succ])
  refine wpAnyH_take (i := 25) (oi := { dst := some 185, op := Op.binOp BinOp.gtr 3 (Operand.tmp 177) (Operand.tmp 184) 3, type := 4, pos := "laws.go:552", after := #[{ on := 17, ground := Ground.data }, { on := 24, ground := Ground.data }, { on := 10, ground := Ground.guard }], guard := some (10, false) }) (v := ?_) rfl (by kernel_rfl) (by kernel_rfl) (by kernel_rfl) (fun _ _ _ h => h) (Or.inl ⟨by rfl, ?_⟩) (by assumption) ?_
  rotate_left
  · intro w' hSw; (try dsimp only at hSw); first | (go_simp; done) | (go_simp; with_reducible rfl)
  (try simp only [Act.put, List.setIfInBounds_toArray, List.set_cons_zero, List.set_cons_succ])
  refine wpAnyH_take (i := 26) (oi := { dst := some 186, op := Op.pick (Operand.tmp 170) (Operand.const (Value.bool true)) (Operand.tmp 185), type := 4, pos := "laws.go:552", after := #[{ on := 10, ground := Ground.data }, { on := 25, ground := Ground.data }, { on := 7, ground := Ground.guard }], guard := some (7, true) }) (v := ?_) rfl (by kernel_rfl) (by kernel_rfl) (by kernel_rfl) (fun _ _ _ h => h) (Or.inl ⟨by rfl, ?_⟩) (by assumption) ?_
  rotate_left
  · intro w' hSw; (try dsimp only at hSw); first | (go_simp; done) | (go_simp; with_reducible rfl)
  (try simp only [Act.put, List.setIfInBounds_toArray, List.set_cons_zero, List.set_cons_succ])
  refine wpAnyH_take (i := 27) (oi := { dst := some 187, op := Op.pick (Operand.tmp 167) (Operand.tmp 186) (Operand.const (Value.bool false)), type := 4, pos := "laws.go:552", after := #[{ on := 7, ground := Ground.data }, { on := 26, ground := Ground.data }], guard := none }) (v := ?_) rfl (by kernel_rfl) (by kernel_rfl) (by kernel_rfl) (fun _ _ _ h => h) (Or.inl ⟨by rfl, ?_⟩) (by assumption) ?_
  rotate_left
  · intro w' hSw; (try dsimp only at hSw); first | (go_simp; done) | (go_simp; with_reducible rfl)
  (try simp only [Act.put, List.setIfInBounds_toArray, List.set_cons_zero, List.set_cons_succ])
  refine wpAnyH_done (by kernel_rfl) ?_ _
  exact NoPanic.normal (HQ.out _ _ _ _ _ _ _ _ _ _ _ _ _ _ _ _ _ _ _ _ _ _ _ _ _ _ _ _ BB.out)

set_option maxRecDepth 100000 in
set_option maxHeartbeats 4000000 in
theorem regT21a {Q : Exit → Act → World → Prop} {v0 v1 v2 v3 v4 v5 v6 v7 v8 v9 v10 v12 v13 v14 v15 v16 v17 v18 v19 v20 v21 v22 v23 v25 v26 v27 v28 v29 v30 v31 v32 v33 v34 v35 v36 v37 v38 v39 v40 v41 v42 v43 v44 v45 v46 v47 v48 v49 v50 v51 v52 v53 v54 v55 v56 v57 v58 v59 v60 v61 v62 v63 v64 v65 v66 v67 v68 v69 v70 v71 v72 v73 v74 v75 v76 v77 v78 v79 v80 v81 v82 v83 v84 v85 v86 v87 v88 v89 v90 v91 v92 v93 v94 v95 v96 v97 v98 v99 v100 v101 v102 v103 v104 v105 v106 v107 v108 v109 v110 v111 v112 v113 v114 v115 v116 v117 v118 v119 v120 v121 v122 v123 v124 v125 v126 v127 v128 v129 v130 v131 v132 v133 v134 v135 v136 v137 v138 v139 v140 v141 v142 v143 v144 v145 v146 v147 v148 v149 v150 v151 v152 v153 v154 v155 v156 v157 v158 v159 v160 v161 v162 v163 v164 v165 v166 v167 v168 v169 v170 v171 v172 v173 v174 v175 v176 v177 v178 v179 v180 v181 v182 v183 v184 v185 v186 v187 v188 v189 v190 v191 v192 v193 v194 v195 v196 v197 v198 v199 v200 v201 v202 v203 v204 v205 v206 v207 v208 v209 v210 v211 v212 v213 v214 v215 v216 v217 v218 v219 v220 v221 v222 v223 v224 v225 v226 v227 v228 v229 v230 v231 v232 : Value} {w : World} {p : Nat} {xm : Option Addr} {nm cm : Nat} {lm : List ByteArray} (C_m : Hid (Ret.Box w p (.slice xm nm cm) 27)) (H_m : Hid (Holds Value.string w (.slice xm nm cm) lm)) (HM : Hid (lm.length ≤ 9000000))
    (hQ : ∀ (u188 u189 u190 u191 u192 u193 u194 u195 u196 u197 u198 : Value) (wx : World), Below w.heap.size w wx → Q .normal ⟨#[v0, v1, v2, v3, v4, v5, v6, v7, v8, v9, v10, .pointer (some ⟨p, 0, none⟩), v12, v13, v14, v15, v16, v17, v18, v19, v20, v21, v22, v23, .int .i64 (-1), v25, v26, v27, v28, v29, v30, v31, v32, v33, v34, v35, v36, v37, v38, v39, v40, v41, v42, v43, v44, v45, v46, v47, v48, v49, v50, v51, v52, v53, v54, v55, v56, v57, v58, v59, v60, v61, v62, v63, v64, v65, v66, v67, v68, v69, v70, v71, v72, v73, v74, v75, v76, v77, v78, v79, v80, v81, v82, v83, v84, v85, v86, v87, v88, v89, v90, v91, v92, v93, v94, v95, v96, v97, v98, v99, v100, v101, v102, v103, v104, v105, v106, v107, v108, v109, v110, v111, v112, v113, v114, v115, v116, v117, v118, v119, v120, v121, v122, v123, v124, v125, v126, v127, v128, v129, v130, v131, v132, v133, v134, v135, v136, v137, v138, v139, v140, v141, v142, v143, v144, v145, v146, v147, v148, v149, v150, v151, v152, v153, v154, v155, v156, v157, v158, v159, v160, v161, v162, v163, v164, v165, v166, v167, v168, v169, v170, v171, v172, v173, v174, v175, v176, v177, v178, v179, v180, v181, v182, v183, v184, v185, v186, v187, u188, u189, u190, u191, u192, u193, u194, u195, u196, u197, u198, .bool false, v200, v201, v202, v203, v204, v205, v206, v207, v208, v209, v210, v211, v212, v213, v214, v215, v216, v217, v218, v219, v220, v221, v222, v223, v224, v225, v226, v227, v228, v229, v230, v231, v232], []⟩ wx) :
    (Code.region 21 #[{ dst := some 188, op := Op.move (Operand.tmp 24), type := 3, pos := "laws.go:556", after := #[], guard := none },
      { dst := some 189, op := Op.binOp BinOp.geq 3 (Operand.tmp 188) (Operand.const (Value.int IntKind.i64 0)) 3, type := 4, pos := "laws.go:556", after := #[{ on := 0, ground := Ground.data }], guard := none },
      { dst := some 190, op := Op.move (Operand.tmp 189), type := 4, pos := "laws.go:556", after := #[{ on := 1, ground := Ground.data }], guard := none },
      { dst := some 191, op := Op.load 27 (Operand.tmp 11), type := 27, pos := "laws.go:556", after := #[{ on := 2, ground := Ground.guard }], guard := some (2, true) },
      { dst := some 192, op := Op.move (Operand.tmp 10), type := 24, pos := "laws.go:556", after := #[{ on := 2, ground := Ground.guard }], guard := some (2, true) },
      { dst := some 193, op := Op.move (Operand.tmp 24), type := 3, pos := "laws.go:556", after := #[{ on := 2, ground := Ground.guard }], guard := some (2, true) },
      { dst := some 194, op := Op.indexAddr 24 (Operand.tmp 192) (Operand.tmp 193), type := 0, pos := "laws.go:556", after := #[{ on := 4, ground := Ground.data }, { on := 5, ground := Ground.data }, { on := 2, ground := Ground.guard }], guard := some (2, true) },
      { dst := some 195, op := Op.fieldAddr 44 (Operand.tmp 194) 0, type := 0, pos := "laws.go:556", after := #[{ on := 6, ground := Ground.data }, { on := 2, ground := Ground.guard }], guard := some (2, true) },
      { dst := some 196, op := Op.load 27 (Operand.tmp 195), type := 27, pos := "laws.go:556", after := #[{ on := 7, ground := Ground.data }, { on := 2, ground := Ground.guard }], guard := some (2, true) },
      { dst := some 197, op := Op.call { callee := Callee.value (Operand.func 32), args := #[Operand.tmp 191, Operand.tmp 196], argTypes := #[27, 27] }, type := 4, pos := "laws.go:556", after := #[{ on := 3, ground := Ground.data }, { on := 8, ground := Ground.data }, { on := 2, ground := Ground.chain }, { on := 2, ground := Ground.guard }], guard := some (2, true) },
      { dst := some 198, op := Op.unOp UnOp.not 4 (Operand.tmp 197), type := 4, pos := "laws.go:556", after := #[{ on := 9, ground := Ground.data }, { on := 2, ground := Ground.guard }], guard := some (2, true) },
      { dst := some 199, op := Op.pick (Operand.tmp 190) (Operand.tmp 198) (Operand.const (Value.bool false)), type := 4, pos := "laws.go:556", after := #[{ on := 2, ground := Ground.data }, { on := 10, ground := Ground.data }], guard := none }] true).wp Try.prog Q ⟨#[v0, v1, v2, v3, v4, v5, v6, v7, v8, v9, v10, .pointer (some ⟨p, 0, none⟩), v12, v13, v14, v15, v16, v17, v18, v19, v20, v21, v22, v23, .int .i64 (-1), v25, v26, v27, v28, v29, v30, v31, v32, v33, v34, v35, v36, v37, v38, v39, v40, v41, v42, v43, v44, v45, v46, v47, v48, v49, v50, v51, v52, v53, v54, v55, v56, v57, v58, v59, v60, v61, v62, v63, v64, v65, v66, v67, v68, v69, v70, v71, v72, v73, v74, v75, v76, v77, v78, v79, v80, v81, v82, v83, v84, v85, v86, v87, v88, v89, v90, v91, v92, v93, v94, v95, v96, v97, v98, v99, v100, v101, v102, v103, v104, v105, v106, v107, v108, v109, v110, v111, v112, v113, v114, v115, v116, v117, v118, v119, v120, v121, v122, v123, v124, v125, v126, v127, v128, v129, v130, v131, v132, v133, v134, v135, v136, v137, v138, v139, v140, v141, v142, v143, v144, v145, v146, v147, v148, v149, v150, v151, v152, v153, v154, v155, v156, v157, v158, v159, v160, v161, v162, v163, v164, v165, v166, v167, v168, v169, v170, v171, v172, v173, v174, v175, v176, v177, v178, v179, v180, v181, v182, v183, v184, v185, v186, v187, v188, v189, v190, v191, v192, v193, v194, v195, v196, v197, v198, v199, v200, v201, v202, v203, v204, v205, v206, v207, v208, v209, v210, v211, v212, v213, v214, v215, v216, v217, v218, v219, v220, v221, v222, v223, v224, v225, v226, v227, v228, v229, v230, v231, v232], []⟩ w := by
  have HQ := Lib.hid hQ; clear hQ
  have hdr : Below w.heap.size w w.drew := (Below.refl _ _).drew
  have Cd_m := Lib.hid (C_m.out.on hdr)
  have Hd_m := Lib.hid (H_m.out.on hdr)
  have BB := Lib.hid hdr; clear hdr
  refine wp_region_noPanic ?_
  refine wp_region_held_drew (S := (fun w' => w'.cell? ⟨p, 0, none⟩ = some (.slice xm nm cm))) (by kernel_rfl) ?_ (fun hHeld => ?_)
  · exact Cd_m.out.cell
  refine wpAnyH_take (i := 0) (oi := { dst := some 188, op := Op.move (Operand.tmp 24), type := 3, pos := "laws.go:556", after := #[], guard := none }) (v := ?_) rfl (by kernel_rfl) (by kernel_rfl) (by kernel_rfl) (fun _ _ _ h => h) (Or.inl ⟨by rfl, ?_⟩) (by assumption) ?_
  rotate_left
  · intro w' hSw; (try dsimp only at hSw); first | (go_simp; done) | (go_simp; with_reducible rfl)
  (try simp only [Act.put, List.setIfInBounds_toArray, List.set_cons_zero, List.set_cons_succ])
  refine wpAnyH_take (i := 1) (oi := { dst := some 189, op := Op.binOp BinOp.geq 3 (Operand.tmp 188) (Operand.const (Value.int IntKind.i64 0)) 3, type := 4, pos := "laws.go:556", after := #[{ on := 0, ground := Ground.data }], guard := none }) (v := ?_) rfl (by kernel_rfl) (by kernel_rfl) (by kernel_rfl) (fun _ _ _ h => h) (Or.inl ⟨by rfl, ?_⟩) (by assumption) ?_
  rotate_left
  · intro w' hSw; (try dsimp only at hSw); first | (go_simp; done) | (go_simp; with_reducible rfl)
  (try simp only [Act.put, List.setIfInBounds_toArray, List.set_cons_zero, List.set_cons_succ])
  refine wpAnyH_take (i := 2) (oi := { dst := some 190, op := Op.move (Operand.tmp 189), type := 4, pos := "laws.go:556", after := #[{ on := 1, ground := Ground.data }], guard := none }) (v := ?_) rfl (by kernel_rfl) (by kernel_rfl) (by kernel_rfl) (fun _ _ _ h => h) (Or.inl ⟨by rfl, ?_⟩) (by assumption) ?_
  rotate_left
  · intro w' hSw; (try dsimp only at hSw); first | (go_simp; done) | (go_simp; with_reducible rfl)
  (try simp only [Act.put, List.setIfInBounds_toArray, List.set_cons_zero, List.set_cons_succ])
  refine wpAnyH_take (i := 3) (oi := { dst := some 191, op := Op.load 27 (Operand.tmp 11), type := 27, pos := "laws.go:556", after := #[{ on := 2, ground := Ground.guard }], guard := some (2, true) }) (v := undef) rfl (by kernel_rfl) (by kernel_rfl) (by kernel_rfl) (fun _ _ _ h => h) (Or.inr ⟨by rfl, rfl⟩) (by assumption) ?_
  (try simp only [Act.put, List.setIfInBounds_toArray, List.set_cons_zero, List.set_cons_succ])
  refine wpAnyH_take (i := 4) (oi := { dst := some 192, op := Op.move (Operand.tmp 10), type := 24, pos := "laws.go:556", after := #[{ on := 2, ground := Ground.guard }], guard := some (2, true) }) (v := undef) rfl (by kernel_rfl) (by kernel_rfl) (by kernel_rfl) (fun _ _ _ h => h) (Or.inr ⟨by rfl, rfl⟩) (by assumption) ?_
  (try simp only [Act.put, List.setIfInBounds_toArray, List.set_cons_zero, List.set_cons_succ])
  refine wpAnyH_take (i := 5) (oi := { dst := some 193, op := Op.move (Operand.tmp 24), type := 3, pos := "laws.go:556", after := #[{ on := 2, ground := Ground.guard }], guard := some (2, true) }) (v := undef) rfl (by kernel_rfl) (by kernel_rfl) (by kernel_rfl) (fun _ _ _ h => h) (Or.inr ⟨by rfl, rfl⟩) (by assumption) ?_
  (try simp only [Act.put, List.setIfInBounds_toArray, List.set_cons_zero, List.set_cons_succ])
  refine wpAnyH_take (i := 6) (oi := { dst := some 194, op := Op.indexAddr 24 (Operand.tmp 192) (Operand.tmp 193), type := 0, pos := "laws.go:556", after := #[{ on := 4, ground := Ground.data }, { on := 5, ground := Ground.data }, { on := 2, ground := Ground.guard }], guard := some (2, true) }) (v := undef) rfl (by kernel_rfl) (by kernel_rfl) (by kernel_rfl) (fun _ _ _ h => h) (Or.inr ⟨by rfl, rfl⟩) (by assumption) ?_
  (try simp only [Act.put, List.setIfInBounds_toArray, List.set_cons_zero, List.set_cons_succ])
  refine wpAnyH_take (i := 7) (oi := { dst := some 195, op := Op.fieldAddr 44 (Operand.tmp 194) 0, type := 0, pos := "laws.go:556", after := #[{ on := 6, ground := Ground.data }, { on := 2, ground := Ground.guard }], guard := some (2, true) }) (v := undef) rfl (by kernel_rfl) (by kernel_rfl) (by kernel_rfl) (fun _ _ _ h => h) (Or.inr ⟨by rfl, rfl⟩) (by assumption) ?_
  (try simp only [Act.put, List.setIfInBounds_toArray, List.set_cons_zero, List.set_cons_succ])
  refine wpAnyH_take (i := 8) (oi := { dst := some 196, op := Op.load 27 (Operand.tmp 195), type := 27, pos := "laws.go:556", after := #[{ on := 7, ground := Ground.data }, { on := 2, ground := Ground.guard }], guard := some (2, true) }) (v := undef) rfl (by kernel_rfl) (by kernel_rfl) (by kernel_rfl) (fun _ _ _ h => h) (Or.inr ⟨by rfl, rfl⟩) (by assumption) ?_
  (try simp only [Act.put, List.setIfInBounds_toArray, List.set_cons_zero, List.set_cons_succ])
  refine wpAnyH_take (i := 9) (oi := { dst := some 197, op := Op.call { callee := Callee.value (Operand.func 32), args := #[Operand.tmp 191, Operand.tmp 196], argTypes := #[27, 27] }, type := 4, pos := "laws.go:556", after := #[{ on := 3, ground := Ground.data }, { on := 8, ground := Ground.data }, { on := 2, ground := Ground.chain }, { on := 2, ground := Ground.guard }], guard := some (2, true) }) (v := undef) rfl (by kernel_rfl) (by kernel_rfl) (by kernel_rfl) (fun _ _ _ h => h) (Or.inr ⟨by rfl, rfl⟩) (by assumption) ?_
  (try simp only [Act.put, List.setIfInBounds_toArray, List.set_cons_zero, List.set_cons_succ])
  refine wpAnyH_take (i := 10) (oi := { dst := some 198, op := Op.unOp UnOp.not 4 (Operand.tmp 197), type := 4, pos := "laws.go:556", after := #[{ on := 9, ground := Ground.data }, { on := 2, ground := Ground.guard }], guard := some (2, true) }) (v := undef) rfl (by kernel_rfl) (by kernel_rfl) (by kernel_rfl) (fun _ _ _ h => h) (Or.inr ⟨by rfl, rfl⟩) (by assumption) ?_
  (try simp only [Act.put, List.setIfInBounds_toArray, List.set_cons_zero, List.set_cons_succ])
  refine wpAnyH_take (i := 11) (oi := { dst := some 199, op := Op.pick (Operand.tmp 190) (Operand.tmp 198) (Operand.const (Value.bool false)), type := 4, pos := "laws.go:556", after := #[{ on := 2, ground := Ground.data }, { on := 10, ground := Ground.data }], guard := none }) (v := ?_) rfl (by kernel_rfl) (by kernel_rfl) (by kernel_rfl) (fun _ _ _ h => h) (Or.inl ⟨by rfl, ?_⟩) (by assumption) ?_
  rotate_left
  · intro w' hSw; (try dsimp only at hSw); first | (go_simp; done) | (go_simp; with_reducible rfl)
  (try simp only [Act.put, List.setIfInBounds_toArray, List.set_cons_zero, List.set_cons_succ])
  refine wpAnyH_done (by kernel_rfl) ?_ _
  exact NoPanic.normal (HQ.out _ _ _ _ _ _ _ _ _ _ _ _ BB.out)

set_option maxRecDepth 100000 in
set_option maxHeartbeats 4000000 in
theorem regT21b {Q : Exit → Act → World → Prop} {v0 v1 v2 v3 v4 v5 v6 v7 v8 v9 v12 v13 v14 v15 v16 v17 v18 v19 v20 v21 v22 v23 v25 v26 v27 v28 v29 v30 v31 v32 v33 v34 v35 v36 v37 v38 v39 v40 v41 v42 v43 v44 v45 v46 v47 v48 v49 v50 v51 v52 v53 v54 v55 v56 v57 v58 v59 v60 v61 v62 v63 v64 v65 v66 v67 v68 v69 v70 v71 v72 v73 v74 v75 v76 v77 v78 v79 v80 v81 v82 v83 v84 v85 v86 v87 v88 v89 v90 v91 v92 v93 v94 v95 v96 v97 v98 v99 v100 v101 v102 v103 v104 v105 v106 v107 v108 v109 v110 v111 v112 v113 v114 v115 v116 v117 v118 v119 v120 v121 v122 v123 v124 v125 v126 v127 v128 v129 v130 v131 v132 v133 v134 v135 v136 v137 v138 v139 v140 v141 v142 v143 v144 v145 v146 v147 v148 v149 v150 v151 v152 v153 v154 v155 v156 v157 v158 v159 v160 v161 v162 v163 v164 v165 v166 v167 v168 v169 v170 v171 v172 v173 v174 v175 v176 v177 v178 v179 v180 v181 v182 v183 v184 v185 v186 v187 v188 v189 v190 v191 v192 v193 v194 v195 v196 v197 v198 v199 v200 v201 v202 v203 v204 v205 v206 v207 v208 v209 v210 v211 v212 v213 v214 v215 v216 v217 v218 v219 v220 v221 v222 v223 v224 v225 v226 v227 v228 v229 v230 v231 v232 : Value} {w : World} {p : Nat} {xm : Option Addr} {nm cm : Nat} {lm : List ByteArray} (C_m : Hid (Ret.Box w p (.slice xm nm cm) 27)) (H_m : Hid (Holds Value.string w (.slice xm nm cm) lm)) (HM : Hid (lm.length ≤ 9000000)) {b off n cx j na ca : Nat} {xa : Option Addr} {la : List ByteArray} (hj : j < n) (hn : n ≤ 1000) (K1 : Hid (w.cell? ⟨b, off + j * 2, none⟩ = some (.slice xa na ca))) (H_a : Hid (Holds Value.string w (.slice xa na ca) la)) (HL : Hid (la.length ≤ 9000000)) (HV : Hid (hpB lm la = true))
    (hQ : ∀ (u188 u189 u190 u191 u192 u193 u194 u195 u196 u197 u198 : Value) (wx : World), Below w.heap.size w wx → Q .normal ⟨#[v0, v1, v2, v3, v4, v5, v6, v7, v8, v9, .slice (some ⟨b, off, none⟩) n cx, .pointer (some ⟨p, 0, none⟩), v12, v13, v14, v15, v16, v17, v18, v19, v20, v21, v22, v23, .int .i64 (j : Nat), v25, v26, v27, v28, v29, v30, v31, v32, v33, v34, v35, v36, v37, v38, v39, v40, v41, v42, v43, v44, v45, v46, v47, v48, v49, v50, v51, v52, v53, v54, v55, v56, v57, v58, v59, v60, v61, v62, v63, v64, v65, v66, v67, v68, v69, v70, v71, v72, v73, v74, v75, v76, v77, v78, v79, v80, v81, v82, v83, v84, v85, v86, v87, v88, v89, v90, v91, v92, v93, v94, v95, v96, v97, v98, v99, v100, v101, v102, v103, v104, v105, v106, v107, v108, v109, v110, v111, v112, v113, v114, v115, v116, v117, v118, v119, v120, v121, v122, v123, v124, v125, v126, v127, v128, v129, v130, v131, v132, v133, v134, v135, v136, v137, v138, v139, v140, v141, v142, v143, v144, v145, v146, v147, v148, v149, v150, v151, v152, v153, v154, v155, v156, v157, v158, v159, v160, v161, v162, v163, v164, v165, v166, v167, v168, v169, v170, v171, v172, v173, v174, v175, v176, v177, v178, v179, v180, v181, v182, v183, v184, v185, v186, v187, u188, u189, u190, u191, u192, u193, u194, u195, u196, u197, u198, .bool false, v200, v201, v202, v203, v204, v205, v206, v207, v208, v209, v210, v211, v212, v213, v214, v215, v216, v217, v218, v219, v220, v221, v222, v223, v224, v225, v226, v227, v228, v229, v230, v231, v232], []⟩ wx) :
    (Code.region 21 #[{ dst := some 188, op := Op.move (Operand.tmp 24), type := 3, pos := "laws.go:556", after := #[], guard := none },
      { dst := some 189, op := Op.binOp BinOp.geq 3 (Operand.tmp 188) (Operand.const (Value.int IntKind.i64 0)) 3, type := 4, pos := "laws.go:556", after := #[{ on := 0, ground := Ground.data }], guard := none },
      { dst := some 190, op := Op.move (Operand.tmp 189), type := 4, pos := "laws.go:556", after := #[{ on := 1, ground := Ground.data }], guard := none },
      { dst := some 191, op := Op.load 27 (Operand.tmp 11), type := 27, pos := "laws.go:556", after := #[{ on := 2, ground := Ground.guard }], guard := some (2, true) },
      { dst := some 192, op := Op.move (Operand.tmp 10), type := 24, pos := "laws.go:556", after := #[{ on := 2, ground := Ground.guard }], guard := some (2, true) },
      { dst := some 193, op := Op.move (Operand.tmp 24), type := 3, pos := "laws.go:556", after := #[{ on := 2, ground := Ground.guard }], guard := some (2, true) },
      { dst := some 194, op := Op.indexAddr 24 (Operand.tmp 192) (Operand.tmp 193), type := 0, pos := "laws.go:556", after := #[{ on := 4, ground := Ground.data }, { on := 5, ground := Ground.data }, { on := 2, ground := Ground.guard }], guard := some (2, true) },
      { dst := some 195, op := Op.fieldAddr 44 (Operand.tmp 194) 0, type := 0, pos := "laws.go:556", after := #[{ on := 6, ground := Ground.data }, { on := 2, ground := Ground.guard }], guard := some (2, true) },
      { dst := some 196, op := Op.load 27 (Operand.tmp 195), type := 27, pos := "laws.go:556", after := #[{ on := 7, ground := Ground.data }, { on := 2, ground := Ground.guard }], guard := some (2, true) },
      { dst := some 197, op := Op.call { callee := Callee.value (Operand.func 32), args := #[Operand.tmp 191, Operand.tmp 196], argTypes := #[27, 27] }, type := 4, pos := "laws.go:556", after := #[{ on := 3, ground := Ground.data }, { on := 8, ground := Ground.data }, { on := 2, ground := Ground.chain }, { on := 2, ground := Ground.guard }], guard := some (2, true) },
      { dst := some 198, op := Op.unOp UnOp.not 4 (Operand.tmp 197), type := 4, pos := "laws.go:556", after := #[{ on := 9, ground := Ground.data }, { on := 2, ground := Ground.guard }], guard := some (2, true) },
      { dst := some 199, op := Op.pick (Operand.tmp 190) (Operand.tmp 198) (Operand.const (Value.bool false)), type := 4, pos := "laws.go:556", after := #[{ on := 2, ground := Ground.data }, { on := 10, ground := Ground.data }], guard := none }] true).wp Try.prog Q ⟨#[v0, v1, v2, v3, v4, v5, v6, v7, v8, v9, .slice (some ⟨b, off, none⟩) n cx, .pointer (some ⟨p, 0, none⟩), v12, v13, v14, v15, v16, v17, v18, v19, v20, v21, v22, v23, .int .i64 (j : Nat), v25, v26, v27, v28, v29, v30, v31, v32, v33, v34, v35, v36, v37, v38, v39, v40, v41, v42, v43, v44, v45, v46, v47, v48, v49, v50, v51, v52, v53, v54, v55, v56, v57, v58, v59, v60, v61, v62, v63, v64, v65, v66, v67, v68, v69, v70, v71, v72, v73, v74, v75, v76, v77, v78, v79, v80, v81, v82, v83, v84, v85, v86, v87, v88, v89, v90, v91, v92, v93, v94, v95, v96, v97, v98, v99, v100, v101, v102, v103, v104, v105, v106, v107, v108, v109, v110, v111, v112, v113, v114, v115, v116, v117, v118, v119, v120, v121, v122, v123, v124, v125, v126, v127, v128, v129, v130, v131, v132, v133, v134, v135, v136, v137, v138, v139, v140, v141, v142, v143, v144, v145, v146, v147, v148, v149, v150, v151, v152, v153, v154, v155, v156, v157, v158, v159, v160, v161, v162, v163, v164, v165, v166, v167, v168, v169, v170, v171, v172, v173, v174, v175, v176, v177, v178, v179, v180, v181, v182, v183, v184, v185, v186, v187, v188, v189, v190, v191, v192, v193, v194, v195, v196, v197, v198, v199, v200, v201, v202, v203, v204, v205, v206, v207, v208, v209, v210, v211, v212, v213, v214, v215, v216, v217, v218, v219, v220, v221, v222, v223, v224, v225, v226, v227, v228, v229, v230, v231, v232], []⟩ w := by
  have HQ := Lib.hid hQ; clear hQ
  have hdr : Below w.heap.size w w.drew := (Below.refl _ _).drew
  have Cd_m := Lib.hid (C_m.out.on hdr)
  have Hd_m := Lib.hid (H_m.out.on hdr)
  have Hd_a := Lib.hid (H_a.out.on hdr)
  replace K1 := Lib.hid ((hdr.cell (cell_lt K1.out)).trans K1.out)
  have BB := Lib.hid hdr; clear hdr
  refine wp_region_noPanic ?_
  refine wp_region_held_drew (S := (fun w' => w'.cell? ⟨p, 0, none⟩ = some (.slice xm nm cm) ∧ w'.cell? ⟨b, off + j * 2, none⟩ = some (.slice xa na ca))) (by kernel_rfl) ?_ (fun hHeld => ?_)
  · exact ⟨Cd_m.out.cell, K1.out⟩
  refine wpAnyH_take (i := 0) (oi := { dst := some 188, op := Op.move (Operand.tmp 24), type := 3, pos := "laws.go:556", after := #[], guard := none }) (v := ?_) rfl (by kernel_rfl) (by kernel_rfl) (by kernel_rfl) (fun _ _ _ h => h) (Or.inl ⟨by rfl, ?_⟩) (by assumption) ?_
  rotate_left
  · intro w' hSw; (try dsimp only at hSw); first | (go_simp; done) | (go_simp; with_reducible rfl)
  (try simp only [Act.put, List.setIfInBounds_toArray, List.set_cons_zero, List.set_cons_succ])
  refine wpAnyH_take (i := 1) (oi := { dst := some 189, op := Op.binOp BinOp.geq 3 (Operand.tmp 188) (Operand.const (Value.int IntKind.i64 0)) 3, type := 4, pos := "laws.go:556", after := #[{ on := 0, ground := Ground.data }], guard := none }) (v := ?_) rfl (by kernel_rfl) (by kernel_rfl) (by kernel_rfl) (fun _ _ _ h => h) (Or.inl ⟨by rfl, ?_⟩) (by assumption) ?_
  rotate_left
  · intro w' hSw; (try dsimp only at hSw); first | (go_simp; done) | (go_simp; with_reducible rfl)
  (try simp only [Act.put, List.setIfInBounds_toArray, List.set_cons_zero, List.set_cons_succ])
  refine wpAnyH_take (i := 2) (oi := { dst := some 190, op := Op.move (Operand.tmp 189), type := 4, pos := "laws.go:556", after := #[{ on := 1, ground := Ground.data }], guard := none }) (v := ?_) rfl (by kernel_rfl) (by kernel_rfl) (by kernel_rfl) (fun _ _ _ h => h) (Or.inl ⟨by rfl, ?_⟩) (by assumption) ?_
  rotate_left
  · intro w' hSw; (try dsimp only at hSw); first | (go_simp; done) | (go_simp; with_reducible rfl)
  (try simp only [Act.put, List.setIfInBounds_toArray, List.set_cons_zero, List.set_cons_succ])
  refine wpAnyH_take (i := 3) (oi := { dst := some 191, op := Op.load 27 (Operand.tmp 11), type := 27, pos := "laws.go:556", after := #[{ on := 2, ground := Ground.guard }], guard := some (2, true) }) (v := ?_) rfl (by kernel_rfl) (by kernel_rfl) (by kernel_rfl) (fun _ _ _ h => h) (Or.inl ⟨by rfl, ?_⟩) (by assumption) ?_
  rotate_left
  · intro w' hSw; (try dsimp only at hSw); first | (go_simp; done) | (go_simp; with_reducible rfl)
  (try simp only [Act.put, List.setIfInBounds_toArray, List.set_cons_zero, List.set_cons_succ])
  refine wpAnyH_take (i := 4) (oi := { dst := some 192, op := Op.move (Operand.tmp 10), type := 24, pos := "laws.go:556", after := #[{ on := 2, ground := Ground.guard }], guard := some (2, true) }) (v := ?_) rfl (by kernel_rfl) (by kernel_rfl) (by kernel_rfl) (fun _ _ _ h => h) (Or.inl ⟨by rfl, ?_⟩) (by assumption) ?_
  rotate_left
  · intro w' hSw; (try dsimp only at hSw); first | (go_simp; done) | (go_simp; with_reducible rfl)
  (try simp only [Act.put, List.setIfInBounds_toArray, List.set_cons_zero, List.set_cons_succ])
  refine wpAnyH_take (i := 5) (oi := { dst := some 193, op := Op.move (Operand.tmp 24), type := 3, pos := "laws.go:556", after := #[{ on := 2, ground := Ground.guard }], guard := some (2, true) }) (v := ?_) rfl (by kernel_rfl) (by kernel_rfl) (by kernel_rfl) (fun _ _ _ h => h) (Or.inl ⟨by rfl, ?_⟩) (by assumption) ?_
  rotate_left
  · intro w' hSw; (try dsimp only at hSw); first | (go_simp; done) | (go_simp; with_reducible rfl)
  (try simp only [Act.put, List.setIfInBounds_toArray, List.set_cons_zero, List.set_cons_succ])
  refine wpAnyH_take (i := 6) (oi := { dst := some 194, op := Op.indexAddr 24 (Operand.tmp 192) (Operand.tmp 193), type := 0, pos := "laws.go:556", after := #[{ on := 4, ground := Ground.data }, { on := 5, ground := Ground.data }, { on := 2, ground := Ground.guard }], guard := some (2, true) }) (v := ?_) rfl (by kernel_rfl) (by kernel_rfl) (by kernel_rfl) (fun _ _ _ h => h) (Or.inl ⟨by rfl, ?_⟩) (by assumption) ?_
  rotate_left
  · intro w' hSw; (try dsimp only at hSw); first | (go_simp; done) | (go_simp; with_reducible rfl)
  (try simp only [Act.put, List.setIfInBounds_toArray, List.set_cons_zero, List.set_cons_succ])
  refine wpAnyH_take (i := 7) (oi := { dst := some 195, op := Op.fieldAddr 44 (Operand.tmp 194) 0, type := 0, pos := "laws.go:556", after := #[{ on := 6, ground := Ground.data }, { on := 2, ground := Ground.guard }], guard := some (2, true) }) (v := ?_) rfl (by kernel_rfl) (by kernel_rfl) (by kernel_rfl) (fun _ _ _ h => h) (Or.inl ⟨by rfl, ?_⟩) (by assumption) ?_
  rotate_left
  · intro w' hSw; (try dsimp only at hSw); first | (go_simp; done) | (go_simp; with_reducible rfl)
  (try simp only [Act.put, List.setIfInBounds_toArray, List.set_cons_zero, List.set_cons_succ])
  refine wpAnyH_take (i := 8) (oi := { dst := some 196, op := Op.load 27 (Operand.tmp 195), type := 27, pos := "laws.go:556", after := #[{ on := 7, ground := Ground.data }, { on := 2, ground := Ground.guard }], guard := some (2, true) }) (v := ?_) rfl (by kernel_rfl) (by kernel_rfl) (by kernel_rfl) (fun _ _ _ h => h) (Or.inl ⟨by rfl, ?_⟩) (by assumption) ?_
  rotate_left
  · intro w' hSw; (try dsimp only at hSw); first | (go_simp; done) | (go_simp; with_reducible rfl)
  (try simp only [Act.put, List.setIfInBounds_toArray, List.set_cons_zero, List.set_cons_succ])
  refine wpAnyH_ready (rs := [9]) (by kernel_rfl) (by simp) ?_
  refine AllReadyH.cons (o := { dst := some 197, op := Op.call { callee := Callee.value (Operand.func 32), args := #[Operand.tmp 191, Operand.tmp 196], argTypes := #[27, 27] }, type := 4, pos := "laws.go:556", after := #[{ on := 3, ground := Ground.data }, { on := 8, ground := Ground.data }, { on := 2, ground := Ground.chain }, { on := 2, ground := Ground.guard }], guard := some (2, true) }) rfl (fun K hK => ?_) AllReadyH.nil
  go_simp
  refine (iHpV true HV.out Hd_m.out Hd_a.out HM.out HL.out).mono ?_
  rintro e wx ⟨rfl, hb⟩
  replace Cd_m := Lib.hid (Cd_m.out.on hb)
  replace Hd_m := Lib.hid (Hd_m.out.on hb)
  replace Hd_a := Lib.hid (Hd_a.out.on hb)
  replace K1 := Lib.hid ((hb.cell (cell_lt K1.out)).trans K1.out)
  replace BB := Lib.hid (BB.out.trans (hb.mono BB.out.size)); clear hb
  (try go_wp2_with fail)
  clear hHeld
  refine hK.out _ _ ?_ (fun hHeld => ?_)
  · (try dsimp only); exact ⟨Cd_m.out.cell, K1.out⟩
  clear hK K
  (try simp only [Act.put, List.setIfInBounds_toArray, List.set_cons_zero, List.set_cons_succ])
  refine wpAnyH_take (i := 10) (oi := { dst := some 198, op := Op.unOp UnOp.not 4 (Operand.tmp 197), type := 4, pos := "laws.go:556", after := #[{ on := 9, ground := Ground.data }, { on := 2, ground := Ground.guard }], guard := some (2, true) }) (v := ?_) rfl (by kernel_rfl) (by kernel_rfl) (by kernel_rfl) (fun _ _ _ h => h) (Or.inl ⟨by rfl, ?_⟩) (by assumption) ?_
  rotate_left
  · intro w' hSw; (try dsimp only at hSw); first | (go_simp; done) | (go_simp; with_reducible rfl)
  (try simp only [Act.put, List.setIfInBounds_toArray, List.set_cons_zero, List.set_cons_succ])
  refine wpAnyH_take (i := 11) (oi := { dst := some 199, op := Op.pick (Operand.tmp 190) (Operand.tmp 198) (Operand.const (Value.bool false)), type := 4, pos := "laws.go:556", after := #[{ on := 2, ground := Ground.data }, { on := 10, ground := Ground.data }], guard := none }) (v := ?_) rfl (by kernel_rfl) (by kernel_rfl) (by kernel_rfl) (fun _ _ _ h => h) (Or.inl ⟨by rfl, ?_⟩) (by assumption) ?_
  rotate_left
  · intro w' hSw; (try dsimp only at hSw); first | (go_simp; done) | (go_simp; with_reducible rfl)
  (try simp only [Act.put, List.setIfInBounds_toArray, List.set_cons_zero, List.set_cons_succ])
  refine wpAnyH_done (by kernel_rfl) ?_ _
  exact NoPanic.normal (HQ.out _ _ _ _ _ _ _ _ _ _ _ _ BB.out)

end Go.Proofs.Ytihcebjbkifbpaa.Row
