/- The regions of FnWants: whatever order is drawn, the last value is the one that the law asks. No conditions. -/
import Derived.WalkKit
import Derived.Deep.RegionHeld3
import Derived.Test.YtnnhgcfelkcpfaaDoorGW
/- The great region of FnWants: whatever order is drawn, its last value is false. No conditions. -/
namespace Go.Proofs.YtnnhgcfelkcpfaaDoor.Row
open Go.ChangeShapes Go.WideShapes Go.ChangeAt Go.RowKit Go.Instr
set_option linter.unusedVariables false
set_option maxRecDepth 100000

set_option maxRecDepth 100000 in
set_option maxHeartbeats 4000000 in
theorem regW7 {Q : Exit → Act → World → Prop} {v0 v1 v2 v27 v28 v29 v30 v31 v32 v33 v34 v35 v36 v37 v38 v39 v40 v41 v42 v43 v44 v45 v46 v47 v48 v49 v50 v51 v52 v53 v54 v55 v56 v57 v58 v59 v60 v61 v62 v63 v64 v65 v66 v67 v68 v69 v70 v71 v72 v73 v74 v75 v76 v77 v78 v79 v80 v81 v82 v83 v84 v85 v86 v87 v88 v89 v90 v91 v92 v93 v94 v95 v96 v97 v98 v99 v100 v101 v102 v103 v104 v105 v106 v107 v108 v109 v110 v111 v112 v113 v114 v115 v116 v117 v118 v119 v120 v121 v122 v123 v124 v125 v126 v127 v128 v129 v130 v131 v132 v133 v134 v135 v136 v137 v138 v139 v140 v141 v142 v143 v144 v145 v146 v147 v148 v149 v150 v151 v152 v153 v154 v155 v156 v157 v158 v159 v160 v161 v162 v163 v164 v165 v166 v167 v168 v169 v170 v171 v172 v173 v174 v175 v176 v177 v178 v179 v180 v181 v182 v183 v184 v185 v186 v187 v188 v189 v190 v191 v192 v193 v194 v195 v196 v197 v198 v199 v200 v201 v202 v203 v204 v205 v206 v207 v208 v209 v210 v211 v212 v213 v214 v215 v216 v217 v218 v219 v220 v221 v222 v223 v224 v225 v226 : Value} {w : World} {bw bx by_ bn bm bk ba bd bh bo bu : Nat} {ok may left q z : Bool} {i nj : Int} {fs : ByteArray} {x_w : Option Addr} {n_w c_w : Nat} {x_x : Option Addr} {n_x c_x : Nat} {x_y : Option Addr} {n_y c_y : Nat} {x_n : Option Addr} {n_n c_n : Nat} {x_m : Option Addr} {n_m c_m : Nat} {x_k : Option Addr} {n_k c_k : Nat} {x_a : Option Addr} {n_a c_a : Nat} {x_d : Option Addr} {n_d c_d : Nat} {x_o : Option Addr} {n_o c_o : Nat} {x_u : Option Addr} {n_u c_u : Nat} {x_b : Option Addr} {n_b c_b : Nat} {x_p : Option Addr} {n_p c_p : Nat} {xw xx xa xd xo : Wt} {ln lm : List ByteArray} {eb ep : List Int} {c_c n_c c_q n_q : Nat} {x_c x_q : Option Addr} (K0_w : Hid (w.cell? ⟨bw, 0, none⟩ = some (.slice x_w n_w c_w))) (K1_w : Hid (w.cell? ⟨bw, 1, none⟩ = some (.int .i64 xw.2.1))) (K2_w : Hid (w.cell? ⟨bw, 2, none⟩ = some (.int .i64 xw.2.2.1))) (K3_w : Hid (w.cell? ⟨bw, 3, none⟩ = some (.int .i64 xw.2.2.2))) (H_w : Hid (kW.At w (.agg #[.slice x_w n_w c_w, .int .i64 xw.2.1, .int .i64 xw.2.2.1, .int .i64 xw.2.2.2]) xw)) (K0_x : Hid (w.cell? ⟨bx, 0, none⟩ = some (.slice x_x n_x c_x))) (K1_x : Hid (w.cell? ⟨bx, 1, none⟩ = some (.int .i64 xx.2.1))) (K2_x : Hid (w.cell? ⟨bx, 2, none⟩ = some (.int .i64 xx.2.2.1))) (K3_x : Hid (w.cell? ⟨bx, 3, none⟩ = some (.int .i64 xx.2.2.2))) (H_x : Hid (kW.At w (.agg #[.slice x_x n_x c_x, .int .i64 xx.2.1, .int .i64 xx.2.2.1, .int .i64 xx.2.2.2]) xx)) (K0_y : Hid (w.cell? ⟨by_, 0, none⟩ = some (.slice x_y n_y c_y))) (K1_y : Hid (w.cell? ⟨by_, 1, none⟩ = some (.int .i64 xx.2.1))) (K2_y : Hid (w.cell? ⟨by_, 2, none⟩ = some (.int .i64 xx.2.2.1))) (K3_y : Hid (w.cell? ⟨by_, 3, none⟩ = some (.int .i64 xx.2.2.2))) (H_y : Hid (kW.At w (.agg #[.slice x_y n_y c_y, .int .i64 xx.2.1, .int .i64 xx.2.2.1, .int .i64 xx.2.2.2]) xx)) (K0_n : Hid (w.cell? ⟨bn, 0, none⟩ = some (.slice x_n n_n c_n))) (H_n : Hid (kN.At w (.agg #[.slice x_n n_n c_n]) ln)) (K0_m : Hid (w.cell? ⟨bm, 0, none⟩ = some (.slice x_m n_m c_m))) (H_m : Hid (kN.At w (.agg #[.slice x_m n_m c_m]) lm)) (K0_k : Hid (w.cell? ⟨bk, 0, none⟩ = some (.slice x_k n_k c_k))) (H_k : Hid (kN.At w (.agg #[.slice x_k n_k c_k]) lm)) (K0_a : Hid (w.cell? ⟨ba, 0, none⟩ = some (.slice x_a n_a c_a))) (K1_a : Hid (w.cell? ⟨ba, 1, none⟩ = some (.int .i64 xa.2.1))) (K2_a : Hid (w.cell? ⟨ba, 2, none⟩ = some (.int .i64 xa.2.2.1))) (K3_a : Hid (w.cell? ⟨ba, 3, none⟩ = some (.int .i64 xa.2.2.2))) (H_a : Hid (kW.At w (.agg #[.slice x_a n_a c_a, .int .i64 xa.2.1, .int .i64 xa.2.2.1, .int .i64 xa.2.2.2]) xa)) (K0_d : Hid (w.cell? ⟨bd, 0, none⟩ = some (.slice x_d n_d c_d))) (K1_d : Hid (w.cell? ⟨bd, 1, none⟩ = some (.int .i64 xd.2.1))) (K2_d : Hid (w.cell? ⟨bd, 2, none⟩ = some (.int .i64 xd.2.2.1))) (K3_d : Hid (w.cell? ⟨bd, 3, none⟩ = some (.int .i64 xd.2.2.2))) (H_d : Hid (kW.At w (.agg #[.slice x_d n_d c_d, .int .i64 xd.2.1, .int .i64 xd.2.2.1, .int .i64 xd.2.2.2]) xd)) (K0_o : Hid (w.cell? ⟨bo, 0, none⟩ = some (.slice x_o n_o c_o))) (K1_o : Hid (w.cell? ⟨bo, 1, none⟩ = some (.int .i64 xo.2.1))) (K2_o : Hid (w.cell? ⟨bo, 2, none⟩ = some (.int .i64 xo.2.2.1))) (K3_o : Hid (w.cell? ⟨bo, 3, none⟩ = some (.int .i64 xo.2.2.2))) (H_o : Hid (kW.At w (.agg #[.slice x_o n_o c_o, .int .i64 xo.2.1, .int .i64 xo.2.2.1, .int .i64 xo.2.2.2]) xo)) (K0_u : Hid (w.cell? ⟨bu, 0, none⟩ = some (.slice x_u n_u c_u))) (K1_u : Hid (w.cell? ⟨bu, 1, none⟩ = some (.int .i64 xo.2.1))) (K2_u : Hid (w.cell? ⟨bu, 2, none⟩ = some (.int .i64 xo.2.2.1))) (K3_u : Hid (w.cell? ⟨bu, 3, none⟩ = some (.int .i64 xo.2.2.2))) (H_u : Hid (kW.At w (.agg #[.slice x_u n_u c_u, .int .i64 xo.2.1, .int .i64 xo.2.2.1, .int .i64 xo.2.2.2]) xo)) (H_b : Hid (kB.At w (.slice x_b n_b c_b) eb)) (H_p : Hid (kB.At w (.slice x_p n_p c_p) ep)) (H_t : Hid (Text.Tab w))
    (HEB : Hid (eb = encW xw)) (HQQ : Hid (eqW xa xd = q)) (HFS : Hid (fmtW xw = fs)) (HZ : Hid (validW xw = z)) (HWF : Hid (WfW xw)) (h1 : bulk xw.1 ≤ 1000) (h2 : bulk xx.1 ≤ 1000) (h3 : bulk xa.1 ≤ 1000) (h4 : bulk xd.1 ≤ 1000) (h5 : bulk xo.1 ≤ 1000) (h6 : bulk ln ≤ 1000) (h7 : lm.length ≤ 1000) (h8 : eb.length ≤ 1000000) (h9 : ep.length ≤ 100000)
    (hQ : ∀ (u88 u89 u90 u91 u92 u93 u94 u95 u96 u97 u98 u99 u100 u101 u102 u103 u104 u105 u106 u107 u108 u109 u110 u111 u112 u113 u114 u115 u116 u117 u118 u119 u120 u121 u122 u123 u124 u125 u126 u127 u128 u129 u130 u131 u132 u133 u134 u135 u136 u137 u138 u139 u140 u141 u142 u143 u144 u145 u146 u147 u148 u149 u150 u151 u152 u153 u154 u155 u156 u157 u158 u159 u160 u161 u162 : Value) (wx : World), Below w.heap.size w wx → Q .normal ⟨#[v0, v1, v2, .pointer (some ⟨bw, 0, none⟩), .slice x_b n_b c_b, .slice x_c n_c c_c, .pointer (some ⟨bx, 0, none⟩), .bool ok, .pointer (some ⟨by_, 0, none⟩), .bool ok, .slice x_p n_p c_p, .pointer (some ⟨bn, 0, none⟩), .slice x_q n_q c_q, .int .i64 i, .pointer (some ⟨bm, 0, none⟩), .int .i64 nj, .bool may, .pointer (some ⟨bk, 0, none⟩), .int .i64 nj, .bool may, .pointer (some ⟨ba, 0, none⟩), .pointer (some ⟨bd, 0, none⟩), .pointer (some ⟨bh, 0, none⟩), .pointer (some ⟨bo, 0, none⟩), .bool left, .pointer (some ⟨bu, 0, none⟩), .bool left, v27, v28, v29, v30, v31, v32, v33, v34, v35, v36, v37, v38, v39, v40, v41, v42, v43, v44, v45, v46, v47, v48, v49, v50, v51, v52, v53, v54, v55, v56, v57, v58, v59, v60, v61, v62, v63, v64, v65, v66, v67, v68, v69, v70, v71, v72, v73, v74, v75, v76, v77, v78, v79, v80, v81, v82, v83, v84, v85, v86, v87, u88, u89, u90, u91, u92, u93, u94, u95, u96, u97, u98, u99, u100, u101, u102, u103, u104, u105, u106, u107, u108, u109, u110, u111, u112, u113, u114, u115, u116, u117, u118, u119, u120, u121, u122, u123, u124, u125, u126, u127, u128, u129, u130, u131, u132, u133, u134, u135, u136, u137, u138, u139, u140, u141, u142, u143, u144, u145, u146, u147, u148, u149, u150, u151, u152, u153, u154, u155, u156, u157, u158, u159, u160, u161, u162, .bool false, v164, v165, v166, v167, v168, v169, v170, v171, v172, v173, v174, v175, v176, v177, v178, v179, v180, v181, v182, v183, v184, v185, v186, v187, v188, v189, v190, v191, v192, v193, v194, v195, v196, v197, v198, v199, v200, v201, v202, v203, v204, v205, v206, v207, v208, v209, v210, v211, v212, v213, v214, v215, v216, v217, v218, v219, v220, v221, v222, v223, v224, v225, v226], []⟩ wx) :
    (Code.region 16 #[{ dst := some 88, op := Op.move (Operand.tmp 4), type := 22, pos := "laws.go:585", after := #[], guard := none },
      { dst := some 89, op := Op.load 28 (Operand.tmp 3), type := 28, pos := "laws.go:585", after := #[], guard := none },
      { dst := some 90, op := Op.call { callee := Callee.value (Operand.func 20), args := #[Operand.tmp 89], argTypes := #[28] }, type := 22, pos := "laws.go:585", after := #[{ on := 1, ground := Ground.data }], guard := none },
      { dst := some 91, op := Op.call { callee := Callee.value (Operand.func 19), args := #[Operand.tmp 88, Operand.tmp 90], argTypes := #[22, 22] }, type := 4, pos := "laws.go:585", after := #[{ on := 0, ground := Ground.data }, { on := 2, ground := Ground.data }, { on := 2, ground := Ground.chain }], guard := none },
      { dst := some 92, op := Op.unOp UnOp.not 4 (Operand.tmp 91), type := 4, pos := "laws.go:585", after := #[{ on := 3, ground := Ground.data }], guard := none },
      { dst := some 93, op := Op.move (Operand.tmp 92), type := 4, pos := "laws.go:585", after := #[{ on := 4, ground := Ground.data }, { on := 3, ground := Ground.chain }], guard := none },
      { dst := some 94, op := Op.load 28 (Operand.tmp 6), type := 28, pos := "laws.go:585", after := #[{ on := 5, ground := Ground.guard }], guard := some (5, false) },
      { dst := some 95, op := Op.load 28 (Operand.tmp 8), type := 28, pos := "laws.go:585", after := #[{ on := 5, ground := Ground.guard }], guard := some (5, false) },
      { dst := some 96, op := Op.call { callee := Callee.value (Operand.func 21), args := #[Operand.tmp 94, Operand.tmp 95], argTypes := #[28, 28] }, type := 4, pos := "laws.go:585", after := #[{ on := 6, ground := Ground.data }, { on := 7, ground := Ground.data }, { on := 5, ground := Ground.chain }, { on := 5, ground := Ground.guard }], guard := some (5, false) },
      { dst := some 97, op := Op.unOp UnOp.not 4 (Operand.tmp 96), type := 4, pos := "laws.go:585", after := #[{ on := 8, ground := Ground.data }, { on := 5, ground := Ground.guard }], guard := some (5, false) },
      { dst := some 98, op := Op.pick (Operand.tmp 93) (Operand.const (Value.bool true)) (Operand.tmp 97), type := 4, pos := "laws.go:585", after := #[{ on := 5, ground := Ground.data }, { on := 9, ground := Ground.data }], guard := none },
      { dst := some 99, op := Op.move (Operand.tmp 98), type := 4, pos := "laws.go:585", after := #[{ on := 10, ground := Ground.data }, { on := 8, ground := Ground.chain }], guard := none },
      { dst := some 100, op := Op.move (Operand.tmp 7), type := 4, pos := "laws.go:585", after := #[{ on := 11, ground := Ground.guard }], guard := some (11, false) },
      { dst := some 101, op := Op.move (Operand.tmp 9), type := 4, pos := "laws.go:585", after := #[{ on := 11, ground := Ground.guard }], guard := some (11, false) },
      { dst := some 102, op := Op.binOp BinOp.neq 4 (Operand.tmp 100) (Operand.tmp 101) 4, type := 4, pos := "laws.go:585", after := #[{ on := 12, ground := Ground.data }, { on := 13, ground := Ground.data }, { on := 11, ground := Ground.guard }], guard := some (11, false) },
      { dst := some 103, op := Op.pick (Operand.tmp 99) (Operand.const (Value.bool true)) (Operand.tmp 102), type := 4, pos := "laws.go:585", after := #[{ on := 11, ground := Ground.data }, { on := 14, ground := Ground.data }], guard := none },
      { dst := some 104, op := Op.move (Operand.tmp 103), type := 4, pos := "laws.go:585", after := #[{ on := 15, ground := Ground.data }, { on := 11, ground := Ground.chain }], guard := none },
      { dst := some 105, op := Op.move (Operand.tmp 10), type := 22, pos := "laws.go:585", after := #[{ on := 16, ground := Ground.guard }], guard := some (16, false) },
      { dst := some 106, op := Op.load 26 (Operand.tmp 11), type := 26, pos := "laws.go:585", after := #[{ on := 16, ground := Ground.guard }], guard := some (16, false) },
      { dst := some 107, op := Op.call { callee := Callee.value (Operand.func 22), args := #[Operand.tmp 105, Operand.tmp 106], argTypes := #[22, 26] }, type := 22, pos := "laws.go:585", after := #[{ on := 17, ground := Ground.data }, { on := 18, ground := Ground.data }, { on := 16, ground := Ground.chain }, { on := 16, ground := Ground.guard }], guard := some (16, false) },
      { dst := some 108, op := Op.move (Operand.tmp 10), type := 22, pos := "laws.go:585", after := #[{ on := 16, ground := Ground.guard }], guard := some (16, false) },
      { dst := some 109, op := Op.load 26 (Operand.tmp 11), type := 26, pos := "laws.go:585", after := #[{ on := 16, ground := Ground.guard }], guard := some (16, false) },
      { dst := some 110, op := Op.call { callee := Callee.value (Operand.func 23), args := #[Operand.tmp 108, Operand.tmp 109], argTypes := #[22, 26] }, type := 22, pos := "laws.go:585", after := #[{ on := 20, ground := Ground.data }, { on := 21, ground := Ground.data }, { on := 19, ground := Ground.chain }, { on := 16, ground := Ground.guard }], guard := some (16, false) },
      { dst := some 111, op := Op.call { callee := Callee.value (Operand.func 19), args := #[Operand.tmp 107, Operand.tmp 110], argTypes := #[22, 22] }, type := 4, pos := "laws.go:585", after := #[{ on := 19, ground := Ground.data }, { on := 22, ground := Ground.data }, { on := 22, ground := Ground.chain }, { on := 16, ground := Ground.guard }], guard := some (16, false) },
      { dst := some 112, op := Op.unOp UnOp.not 4 (Operand.tmp 111), type := 4, pos := "laws.go:585", after := #[{ on := 23, ground := Ground.data }, { on := 16, ground := Ground.guard }], guard := some (16, false) },
      { dst := some 113, op := Op.pick (Operand.tmp 104) (Operand.const (Value.bool true)) (Operand.tmp 112), type := 4, pos := "laws.go:585", after := #[{ on := 16, ground := Ground.data }, { on := 24, ground := Ground.data }], guard := none },
      { dst := some 114, op := Op.move (Operand.tmp 113), type := 4, pos := "laws.go:585", after := #[{ on := 25, ground := Ground.data }, { on := 23, ground := Ground.chain }], guard := none },
      { dst := some 115, op := Op.load 26 (Operand.tmp 14), type := 26, pos := "laws.go:585", after := #[{ on := 26, ground := Ground.guard }], guard := some (26, false) },
      { dst := some 116, op := Op.load 26 (Operand.tmp 17), type := 26, pos := "laws.go:585", after := #[{ on := 26, ground := Ground.guard }], guard := some (26, false) },
      { dst := some 117, op := Op.call { callee := Callee.value (Operand.func 24), args := #[Operand.tmp 115, Operand.tmp 116], argTypes := #[26, 26] }, type := 4, pos := "laws.go:585", after := #[{ on := 27, ground := Ground.data }, { on := 28, ground := Ground.data }, { on := 26, ground := Ground.chain }, { on := 26, ground := Ground.guard }], guard := some (26, false) },
      { dst := some 118, op := Op.unOp UnOp.not 4 (Operand.tmp 117), type := 4, pos := "laws.go:585", after := #[{ on := 29, ground := Ground.data }, { on := 26, ground := Ground.guard }], guard := some (26, false) },
      { dst := some 119, op := Op.pick (Operand.tmp 114) (Operand.const (Value.bool true)) (Operand.tmp 118), type := 4, pos := "laws.go:585", after := #[{ on := 26, ground := Ground.data }, { on := 30, ground := Ground.data }], guard := none },
      { dst := some 120, op := Op.move (Operand.tmp 119), type := 4, pos := "laws.go:585", after := #[{ on := 31, ground := Ground.data }, { on := 29, ground := Ground.chain }], guard := none },
      { dst := some 121, op := Op.move (Operand.tmp 15), type := 3, pos := "laws.go:585", after := #[{ on := 32, ground := Ground.guard }], guard := some (32, false) },
      { dst := some 122, op := Op.move (Operand.tmp 18), type := 3, pos := "laws.go:585", after := #[{ on := 32, ground := Ground.guard }], guard := some (32, false) },
      { dst := some 123, op := Op.binOp BinOp.neq 3 (Operand.tmp 121) (Operand.tmp 122) 3, type := 4, pos := "laws.go:585", after := #[{ on := 33, ground := Ground.data }, { on := 34, ground := Ground.data }, { on := 32, ground := Ground.guard }], guard := some (32, false) },
      { dst := some 124, op := Op.pick (Operand.tmp 120) (Operand.const (Value.bool true)) (Operand.tmp 123), type := 4, pos := "laws.go:585", after := #[{ on := 32, ground := Ground.data }, { on := 35, ground := Ground.data }], guard := none },
      { dst := some 125, op := Op.move (Operand.tmp 124), type := 4, pos := "laws.go:585", after := #[{ on := 36, ground := Ground.data }, { on := 32, ground := Ground.chain }], guard := none },
      { dst := some 126, op := Op.move (Operand.tmp 16), type := 4, pos := "laws.go:585", after := #[{ on := 37, ground := Ground.guard }], guard := some (37, false) },
      { dst := some 127, op := Op.move (Operand.tmp 19), type := 4, pos := "laws.go:585", after := #[{ on := 37, ground := Ground.guard }], guard := some (37, false) },
      { dst := some 128, op := Op.binOp BinOp.neq 4 (Operand.tmp 126) (Operand.tmp 127) 4, type := 4, pos := "laws.go:585", after := #[{ on := 38, ground := Ground.data }, { on := 39, ground := Ground.data }, { on := 37, ground := Ground.guard }], guard := some (37, false) },
      { dst := some 129, op := Op.pick (Operand.tmp 125) (Operand.const (Value.bool true)) (Operand.tmp 128), type := 4, pos := "laws.go:585", after := #[{ on := 37, ground := Ground.data }, { on := 40, ground := Ground.data }], guard := none },
      { dst := some 130, op := Op.move (Operand.tmp 129), type := 4, pos := "laws.go:585", after := #[{ on := 41, ground := Ground.data }, { on := 37, ground := Ground.chain }], guard := none },
      { dst := some 131, op := Op.load 28 (Operand.tmp 20), type := 28, pos := "laws.go:585", after := #[{ on := 42, ground := Ground.guard }], guard := some (42, false) },
      { dst := some 132, op := Op.load 28 (Operand.tmp 21), type := 28, pos := "laws.go:585", after := #[{ on := 42, ground := Ground.guard }], guard := some (42, false) },
      { dst := some 133, op := Op.call { callee := Callee.value (Operand.func 25), args := #[Operand.tmp 131, Operand.tmp 132], argTypes := #[28, 28] }, type := 4, pos := "laws.go:585", after := #[{ on := 43, ground := Ground.data }, { on := 44, ground := Ground.data }, { on := 42, ground := Ground.chain }, { on := 42, ground := Ground.guard }], guard := some (42, false) },
      { dst := some 134, op := Op.load 28 (Operand.tmp 20), type := 28, pos := "laws.go:585", after := #[{ on := 42, ground := Ground.guard }], guard := some (42, false) },
      { dst := some 135, op := Op.load 28 (Operand.tmp 21), type := 28, pos := "laws.go:585", after := #[{ on := 42, ground := Ground.guard }], guard := some (42, false) },
      { dst := some 136, op := Op.call { callee := Callee.value (Operand.func 21), args := #[Operand.tmp 134, Operand.tmp 135], argTypes := #[28, 28] }, type := 4, pos := "laws.go:585", after := #[{ on := 46, ground := Ground.data }, { on := 47, ground := Ground.data }, { on := 45, ground := Ground.chain }, { on := 42, ground := Ground.guard }], guard := some (42, false) },
      { dst := some 137, op := Op.binOp BinOp.neq 4 (Operand.tmp 133) (Operand.tmp 136) 4, type := 4, pos := "laws.go:585", after := #[{ on := 45, ground := Ground.data }, { on := 48, ground := Ground.data }, { on := 42, ground := Ground.guard }], guard := some (42, false) },
      { dst := some 138, op := Op.pick (Operand.tmp 130) (Operand.const (Value.bool true)) (Operand.tmp 137), type := 4, pos := "laws.go:585", after := #[{ on := 42, ground := Ground.data }, { on := 49, ground := Ground.data }], guard := none },
      { dst := some 139, op := Op.move (Operand.tmp 138), type := 4, pos := "laws.go:585", after := #[{ on := 50, ground := Ground.data }, { on := 48, ground := Ground.chain }], guard := none },
      { dst := some 140, op := Op.load 28 (Operand.tmp 23), type := 28, pos := "laws.go:585", after := #[{ on := 51, ground := Ground.guard }], guard := some (51, false) },
      { dst := some 141, op := Op.load 28 (Operand.tmp 25), type := 28, pos := "laws.go:585", after := #[{ on := 51, ground := Ground.guard }], guard := some (51, false) },
      { dst := some 142, op := Op.call { callee := Callee.value (Operand.func 21), args := #[Operand.tmp 140, Operand.tmp 141], argTypes := #[28, 28] }, type := 4, pos := "laws.go:585", after := #[{ on := 52, ground := Ground.data }, { on := 53, ground := Ground.data }, { on := 51, ground := Ground.chain }, { on := 51, ground := Ground.guard }], guard := some (51, false) },
      { dst := some 143, op := Op.unOp UnOp.not 4 (Operand.tmp 142), type := 4, pos := "laws.go:585", after := #[{ on := 54, ground := Ground.data }, { on := 51, ground := Ground.guard }], guard := some (51, false) },
      { dst := some 144, op := Op.pick (Operand.tmp 139) (Operand.const (Value.bool true)) (Operand.tmp 143), type := 4, pos := "laws.go:585", after := #[{ on := 51, ground := Ground.data }, { on := 55, ground := Ground.data }], guard := none },
      { dst := some 145, op := Op.move (Operand.tmp 144), type := 4, pos := "laws.go:585", after := #[{ on := 56, ground := Ground.data }, { on := 54, ground := Ground.chain }], guard := none },
      { dst := some 146, op := Op.move (Operand.tmp 24), type := 4, pos := "laws.go:585", after := #[{ on := 57, ground := Ground.guard }], guard := some (57, false) },
      { dst := some 147, op := Op.move (Operand.tmp 26), type := 4, pos := "laws.go:585", after := #[{ on := 57, ground := Ground.guard }], guard := some (57, false) },
      { dst := some 148, op := Op.binOp BinOp.neq 4 (Operand.tmp 146) (Operand.tmp 147) 4, type := 4, pos := "laws.go:585", after := #[{ on := 58, ground := Ground.data }, { on := 59, ground := Ground.data }, { on := 57, ground := Ground.guard }], guard := some (57, false) },
      { dst := some 149, op := Op.pick (Operand.tmp 145) (Operand.const (Value.bool true)) (Operand.tmp 148), type := 4, pos := "laws.go:585", after := #[{ on := 57, ground := Ground.data }, { on := 60, ground := Ground.data }], guard := none },
      { dst := some 150, op := Op.move (Operand.tmp 149), type := 4, pos := "laws.go:585", after := #[{ on := 61, ground := Ground.data }, { on := 57, ground := Ground.chain }], guard := none },
      { dst := some 151, op := Op.load 28 (Operand.tmp 3), type := 28, pos := "laws.go:585", after := #[{ on := 62, ground := Ground.guard }], guard := some (62, false) },
      { dst := some 152, op := Op.call { callee := Callee.value (Operand.func 26), args := #[Operand.tmp 151], argTypes := #[28] }, type := 9, pos := "laws.go:585", after := #[{ on := 63, ground := Ground.data }, { on := 62, ground := Ground.chain }, { on := 62, ground := Ground.guard }], guard := some (62, false) },
      { dst := some 153, op := Op.load 28 (Operand.tmp 3), type := 28, pos := "laws.go:585", after := #[{ on := 62, ground := Ground.guard }], guard := some (62, false) },
      { dst := some 154, op := Op.call { callee := Callee.value (Operand.func 27), args := #[Operand.tmp 153], argTypes := #[28] }, type := 9, pos := "laws.go:585", after := #[{ on := 65, ground := Ground.data }, { on := 64, ground := Ground.chain }, { on := 62, ground := Ground.guard }], guard := some (62, false) },
      { dst := some 155, op := Op.binOp BinOp.neq 9 (Operand.tmp 152) (Operand.tmp 154) 9, type := 4, pos := "laws.go:585", after := #[{ on := 64, ground := Ground.data }, { on := 66, ground := Ground.data }, { on := 62, ground := Ground.guard }], guard := some (62, false) },
      { dst := some 156, op := Op.pick (Operand.tmp 150) (Operand.const (Value.bool true)) (Operand.tmp 155), type := 4, pos := "laws.go:585", after := #[{ on := 62, ground := Ground.data }, { on := 67, ground := Ground.data }], guard := none },
      { dst := some 157, op := Op.move (Operand.tmp 156), type := 4, pos := "laws.go:585", after := #[{ on := 68, ground := Ground.data }, { on := 66, ground := Ground.chain }], guard := none },
      { dst := some 158, op := Op.load 28 (Operand.tmp 3), type := 28, pos := "laws.go:585", after := #[{ on := 69, ground := Ground.guard }], guard := some (69, false) },
      { dst := some 159, op := Op.call { callee := Callee.value (Operand.func 28), args := #[Operand.tmp 158], argTypes := #[28] }, type := 4, pos := "laws.go:585", after := #[{ on := 70, ground := Ground.data }, { on := 69, ground := Ground.chain }, { on := 69, ground := Ground.guard }], guard := some (69, false) },
      { dst := some 160, op := Op.load 28 (Operand.tmp 3), type := 28, pos := "laws.go:585", after := #[{ on := 69, ground := Ground.guard }], guard := some (69, false) },
      { dst := some 161, op := Op.call { callee := Callee.value (Operand.func 29), args := #[Operand.tmp 160], argTypes := #[28] }, type := 4, pos := "laws.go:585", after := #[{ on := 72, ground := Ground.data }, { on := 71, ground := Ground.chain }, { on := 69, ground := Ground.guard }], guard := some (69, false) },
      { dst := some 162, op := Op.binOp BinOp.neq 4 (Operand.tmp 159) (Operand.tmp 161) 4, type := 4, pos := "laws.go:585", after := #[{ on := 71, ground := Ground.data }, { on := 73, ground := Ground.data }, { on := 69, ground := Ground.guard }], guard := some (69, false) },
      { dst := some 163, op := Op.pick (Operand.tmp 157) (Operand.const (Value.bool true)) (Operand.tmp 162), type := 4, pos := "laws.go:585", after := #[{ on := 69, ground := Ground.data }, { on := 74, ground := Ground.data }], guard := none }] true).wp Tryd.prog Q ⟨#[v0, v1, v2, .pointer (some ⟨bw, 0, none⟩), .slice x_b n_b c_b, .slice x_c n_c c_c, .pointer (some ⟨bx, 0, none⟩), .bool ok, .pointer (some ⟨by_, 0, none⟩), .bool ok, .slice x_p n_p c_p, .pointer (some ⟨bn, 0, none⟩), .slice x_q n_q c_q, .int .i64 i, .pointer (some ⟨bm, 0, none⟩), .int .i64 nj, .bool may, .pointer (some ⟨bk, 0, none⟩), .int .i64 nj, .bool may, .pointer (some ⟨ba, 0, none⟩), .pointer (some ⟨bd, 0, none⟩), .pointer (some ⟨bh, 0, none⟩), .pointer (some ⟨bo, 0, none⟩), .bool left, .pointer (some ⟨bu, 0, none⟩), .bool left, v27, v28, v29, v30, v31, v32, v33, v34, v35, v36, v37, v38, v39, v40, v41, v42, v43, v44, v45, v46, v47, v48, v49, v50, v51, v52, v53, v54, v55, v56, v57, v58, v59, v60, v61, v62, v63, v64, v65, v66, v67, v68, v69, v70, v71, v72, v73, v74, v75, v76, v77, v78, v79, v80, v81, v82, v83, v84, v85, v86, v87, v88, v89, v90, v91, v92, v93, v94, v95, v96, v97, v98, v99, v100, v101, v102, v103, v104, v105, v106, v107, v108, v109, v110, v111, v112, v113, v114, v115, v116, v117, v118, v119, v120, v121, v122, v123, v124, v125, v126, v127, v128, v129, v130, v131, v132, v133, v134, v135, v136, v137, v138, v139, v140, v141, v142, v143, v144, v145, v146, v147, v148, v149, v150, v151, v152, v153, v154, v155, v156, v157, v158, v159, v160, v161, v162, v163, v164, v165, v166, v167, v168, v169, v170, v171, v172, v173, v174, v175, v176, v177, v178, v179, v180, v181, v182, v183, v184, v185, v186, v187, v188, v189, v190, v191, v192, v193, v194, v195, v196, v197, v198, v199, v200, v201, v202, v203, v204, v205, v206, v207, v208, v209, v210, v211, v212, v213, v214, v215, v216, v217, v218, v219, v220, v221, v222, v223, v224, v225, v226], []⟩ w := by
  have HQ := Lib.hid hQ; clear hQ
  have hdr : Below w.heap.size w w.drew := (Below.refl _ _).drew
  have Hd_w := Lib.hid (H_w.out.on hdr)
  have Hd_x := Lib.hid (H_x.out.on hdr)
  have Hd_y := Lib.hid (H_y.out.on hdr)
  have Hd_n := Lib.hid (H_n.out.on hdr)
  have Hd_m := Lib.hid (H_m.out.on hdr)
  have Hd_k := Lib.hid (H_k.out.on hdr)
  have Hd_a := Lib.hid (H_a.out.on hdr)
  have Hd_d := Lib.hid (H_d.out.on hdr)
  have Hd_o := Lib.hid (H_o.out.on hdr)
  have Hd_u := Lib.hid (H_u.out.on hdr)
  have Hd_b := Lib.hid (H_b.out.on hdr)
  have Hd_p := Lib.hid (H_p.out.on hdr)
  have Hd_t := Lib.hid (H_t.out.on hdr)
  replace K0_w := Lib.hid ((hdr.cell (cell_lt K0_w.out)).trans K0_w.out)
  replace K1_w := Lib.hid ((hdr.cell (cell_lt K1_w.out)).trans K1_w.out)
  replace K2_w := Lib.hid ((hdr.cell (cell_lt K2_w.out)).trans K2_w.out)
  replace K3_w := Lib.hid ((hdr.cell (cell_lt K3_w.out)).trans K3_w.out)
  replace K0_x := Lib.hid ((hdr.cell (cell_lt K0_x.out)).trans K0_x.out)
  replace K1_x := Lib.hid ((hdr.cell (cell_lt K1_x.out)).trans K1_x.out)
  replace K2_x := Lib.hid ((hdr.cell (cell_lt K2_x.out)).trans K2_x.out)
  replace K3_x := Lib.hid ((hdr.cell (cell_lt K3_x.out)).trans K3_x.out)
  replace K0_y := Lib.hid ((hdr.cell (cell_lt K0_y.out)).trans K0_y.out)
  replace K1_y := Lib.hid ((hdr.cell (cell_lt K1_y.out)).trans K1_y.out)
  replace K2_y := Lib.hid ((hdr.cell (cell_lt K2_y.out)).trans K2_y.out)
  replace K3_y := Lib.hid ((hdr.cell (cell_lt K3_y.out)).trans K3_y.out)
  replace K0_n := Lib.hid ((hdr.cell (cell_lt K0_n.out)).trans K0_n.out)
  replace K0_m := Lib.hid ((hdr.cell (cell_lt K0_m.out)).trans K0_m.out)
  replace K0_k := Lib.hid ((hdr.cell (cell_lt K0_k.out)).trans K0_k.out)
  replace K0_a := Lib.hid ((hdr.cell (cell_lt K0_a.out)).trans K0_a.out)
  replace K1_a := Lib.hid ((hdr.cell (cell_lt K1_a.out)).trans K1_a.out)
  replace K2_a := Lib.hid ((hdr.cell (cell_lt K2_a.out)).trans K2_a.out)
  replace K3_a := Lib.hid ((hdr.cell (cell_lt K3_a.out)).trans K3_a.out)
  replace K0_d := Lib.hid ((hdr.cell (cell_lt K0_d.out)).trans K0_d.out)
  replace K1_d := Lib.hid ((hdr.cell (cell_lt K1_d.out)).trans K1_d.out)
  replace K2_d := Lib.hid ((hdr.cell (cell_lt K2_d.out)).trans K2_d.out)
  replace K3_d := Lib.hid ((hdr.cell (cell_lt K3_d.out)).trans K3_d.out)
  replace K0_o := Lib.hid ((hdr.cell (cell_lt K0_o.out)).trans K0_o.out)
  replace K1_o := Lib.hid ((hdr.cell (cell_lt K1_o.out)).trans K1_o.out)
  replace K2_o := Lib.hid ((hdr.cell (cell_lt K2_o.out)).trans K2_o.out)
  replace K3_o := Lib.hid ((hdr.cell (cell_lt K3_o.out)).trans K3_o.out)
  replace K0_u := Lib.hid ((hdr.cell (cell_lt K0_u.out)).trans K0_u.out)
  replace K1_u := Lib.hid ((hdr.cell (cell_lt K1_u.out)).trans K1_u.out)
  replace K2_u := Lib.hid ((hdr.cell (cell_lt K2_u.out)).trans K2_u.out)
  replace K3_u := Lib.hid ((hdr.cell (cell_lt K3_u.out)).trans K3_u.out)
  have BB := Lib.hid hdr; clear hdr
  refine wp_region_noPanic ?_
  refine wp_region_held_drew (S := (fun w' => w'.cell? ⟨bw, 0, none⟩ = some (.slice x_w n_w c_w) ∧ w'.cell? ⟨bw, 1, none⟩ = some (.int .i64 xw.2.1) ∧ w'.cell? ⟨bw, 2, none⟩ = some (.int .i64 xw.2.2.1) ∧ w'.cell? ⟨bw, 3, none⟩ = some (.int .i64 xw.2.2.2) ∧ w'.cell? ⟨bx, 0, none⟩ = some (.slice x_x n_x c_x) ∧ w'.cell? ⟨bx, 1, none⟩ = some (.int .i64 xx.2.1) ∧ w'.cell? ⟨bx, 2, none⟩ = some (.int .i64 xx.2.2.1) ∧ w'.cell? ⟨bx, 3, none⟩ = some (.int .i64 xx.2.2.2) ∧ w'.cell? ⟨by_, 0, none⟩ = some (.slice x_y n_y c_y) ∧ w'.cell? ⟨by_, 1, none⟩ = some (.int .i64 xx.2.1) ∧ w'.cell? ⟨by_, 2, none⟩ = some (.int .i64 xx.2.2.1) ∧ w'.cell? ⟨by_, 3, none⟩ = some (.int .i64 xx.2.2.2) ∧ w'.cell? ⟨bn, 0, none⟩ = some (.slice x_n n_n c_n) ∧ w'.cell? ⟨bm, 0, none⟩ = some (.slice x_m n_m c_m) ∧ w'.cell? ⟨bk, 0, none⟩ = some (.slice x_k n_k c_k) ∧ w'.cell? ⟨ba, 0, none⟩ = some (.slice x_a n_a c_a) ∧ w'.cell? ⟨ba, 1, none⟩ = some (.int .i64 xa.2.1) ∧ w'.cell? ⟨ba, 2, none⟩ = some (.int .i64 xa.2.2.1) ∧ w'.cell? ⟨ba, 3, none⟩ = some (.int .i64 xa.2.2.2) ∧ w'.cell? ⟨bd, 0, none⟩ = some (.slice x_d n_d c_d) ∧ w'.cell? ⟨bd, 1, none⟩ = some (.int .i64 xd.2.1) ∧ w'.cell? ⟨bd, 2, none⟩ = some (.int .i64 xd.2.2.1) ∧ w'.cell? ⟨bd, 3, none⟩ = some (.int .i64 xd.2.2.2) ∧ w'.cell? ⟨bo, 0, none⟩ = some (.slice x_o n_o c_o) ∧ w'.cell? ⟨bo, 1, none⟩ = some (.int .i64 xo.2.1) ∧ w'.cell? ⟨bo, 2, none⟩ = some (.int .i64 xo.2.2.1) ∧ w'.cell? ⟨bo, 3, none⟩ = some (.int .i64 xo.2.2.2) ∧ w'.cell? ⟨bu, 0, none⟩ = some (.slice x_u n_u c_u) ∧ w'.cell? ⟨bu, 1, none⟩ = some (.int .i64 xo.2.1) ∧ w'.cell? ⟨bu, 2, none⟩ = some (.int .i64 xo.2.2.1) ∧ w'.cell? ⟨bu, 3, none⟩ = some (.int .i64 xo.2.2.2))) (by kernel_rfl) ?_ (fun hHeld => ?_)
  · exact ⟨K0_w.out, K1_w.out, K2_w.out, K3_w.out, K0_x.out, K1_x.out, K2_x.out, K3_x.out, K0_y.out, K1_y.out, K2_y.out, K3_y.out, K0_n.out, K0_m.out, K0_k.out, K0_a.out, K1_a.out, K2_a.out, K3_a.out, K0_d.out, K1_d.out, K2_d.out, K3_d.out, K0_o.out, K1_o.out, K2_o.out, K3_o.out, K0_u.out, K1_u.out, K2_u.out, K3_u.out⟩
  refine wpAnyH_take (i := 0) (oi := { dst := some 88, op := Op.move (Operand.tmp 4), type := 22, pos := "laws.go:585", after := #[], guard := none }) (v := ?_) rfl (by kernel_rfl) (by kernel_rfl) (by kernel_rfl) (fun _ _ _ h => h) (Or.inl ⟨by rfl, ?_⟩) (by assumption) ?_
  rotate_left
  · intro w' hSw; (try dsimp only at hSw); first | (go_simp; done) | (go_simp; with_reducible rfl)
  (try simp only [Act.put, List.setIfInBounds_toArray, List.set_cons_zero, List.set_cons_succ])
  refine wpAnyH_take (i := 1) (oi := { dst := some 89, op := Op.load 28 (Operand.tmp 3), type := 28, pos := "laws.go:585", after := #[], guard := none }) (v := ?_) rfl (by kernel_rfl) (by kernel_rfl) (by kernel_rfl) (fun _ _ _ h => h) (Or.inl ⟨by rfl, ?_⟩) (by assumption) ?_
  rotate_left
  · intro w' hSw; (try dsimp only at hSw); first | (go_simp; done) | (go_simp; with_reducible rfl)
  (try simp only [Act.put, List.setIfInBounds_toArray, List.set_cons_zero, List.set_cons_succ])
  refine wpAnyH_ready (rs := [2]) (by kernel_rfl) (by simp) ?_
  refine AllReadyH.cons (o := { dst := some 90, op := Op.call { callee := Callee.value (Operand.func 20), args := #[Operand.tmp 89], argTypes := #[28] }, type := 22, pos := "laws.go:585", after := #[{ on := 1, ground := Ground.data }], guard := none }) rfl (fun K hK => ?_) AllReadyH.nil
  go_simp
  refine (specEncodeInterestK _ xw _ Hd_w.out (by omega)).mono ?_
  rintro e wx ⟨U_r, rfl, o_r, hb⟩
  obtain ⟨x_r, n_r, c_r, rfl, o_r⟩ := kB_shape o_r
  have HR := Lib.hid o_r.at; clear o_r
  replace Hd_w := Lib.hid (Hd_w.out.on hb)
  replace Hd_x := Lib.hid (Hd_x.out.on hb)
  replace Hd_y := Lib.hid (Hd_y.out.on hb)
  replace Hd_n := Lib.hid (Hd_n.out.on hb)
  replace Hd_m := Lib.hid (Hd_m.out.on hb)
  replace Hd_k := Lib.hid (Hd_k.out.on hb)
  replace Hd_a := Lib.hid (Hd_a.out.on hb)
  replace Hd_d := Lib.hid (Hd_d.out.on hb)
  replace Hd_o := Lib.hid (Hd_o.out.on hb)
  replace Hd_u := Lib.hid (Hd_u.out.on hb)
  replace Hd_b := Lib.hid (Hd_b.out.on hb)
  replace Hd_p := Lib.hid (Hd_p.out.on hb)
  replace Hd_t := Lib.hid (Hd_t.out.on hb)
  replace K0_w := Lib.hid ((hb.cell (cell_lt K0_w.out)).trans K0_w.out)
  replace K1_w := Lib.hid ((hb.cell (cell_lt K1_w.out)).trans K1_w.out)
  replace K2_w := Lib.hid ((hb.cell (cell_lt K2_w.out)).trans K2_w.out)
  replace K3_w := Lib.hid ((hb.cell (cell_lt K3_w.out)).trans K3_w.out)
  replace K0_x := Lib.hid ((hb.cell (cell_lt K0_x.out)).trans K0_x.out)
  replace K1_x := Lib.hid ((hb.cell (cell_lt K1_x.out)).trans K1_x.out)
  replace K2_x := Lib.hid ((hb.cell (cell_lt K2_x.out)).trans K2_x.out)
  replace K3_x := Lib.hid ((hb.cell (cell_lt K3_x.out)).trans K3_x.out)
  replace K0_y := Lib.hid ((hb.cell (cell_lt K0_y.out)).trans K0_y.out)
  replace K1_y := Lib.hid ((hb.cell (cell_lt K1_y.out)).trans K1_y.out)
  replace K2_y := Lib.hid ((hb.cell (cell_lt K2_y.out)).trans K2_y.out)
  replace K3_y := Lib.hid ((hb.cell (cell_lt K3_y.out)).trans K3_y.out)
  replace K0_n := Lib.hid ((hb.cell (cell_lt K0_n.out)).trans K0_n.out)
  replace K0_m := Lib.hid ((hb.cell (cell_lt K0_m.out)).trans K0_m.out)
  replace K0_k := Lib.hid ((hb.cell (cell_lt K0_k.out)).trans K0_k.out)
  replace K0_a := Lib.hid ((hb.cell (cell_lt K0_a.out)).trans K0_a.out)
  replace K1_a := Lib.hid ((hb.cell (cell_lt K1_a.out)).trans K1_a.out)
  replace K2_a := Lib.hid ((hb.cell (cell_lt K2_a.out)).trans K2_a.out)
  replace K3_a := Lib.hid ((hb.cell (cell_lt K3_a.out)).trans K3_a.out)
  replace K0_d := Lib.hid ((hb.cell (cell_lt K0_d.out)).trans K0_d.out)
  replace K1_d := Lib.hid ((hb.cell (cell_lt K1_d.out)).trans K1_d.out)
  replace K2_d := Lib.hid ((hb.cell (cell_lt K2_d.out)).trans K2_d.out)
  replace K3_d := Lib.hid ((hb.cell (cell_lt K3_d.out)).trans K3_d.out)
  replace K0_o := Lib.hid ((hb.cell (cell_lt K0_o.out)).trans K0_o.out)
  replace K1_o := Lib.hid ((hb.cell (cell_lt K1_o.out)).trans K1_o.out)
  replace K2_o := Lib.hid ((hb.cell (cell_lt K2_o.out)).trans K2_o.out)
  replace K3_o := Lib.hid ((hb.cell (cell_lt K3_o.out)).trans K3_o.out)
  replace K0_u := Lib.hid ((hb.cell (cell_lt K0_u.out)).trans K0_u.out)
  replace K1_u := Lib.hid ((hb.cell (cell_lt K1_u.out)).trans K1_u.out)
  replace K2_u := Lib.hid ((hb.cell (cell_lt K2_u.out)).trans K2_u.out)
  replace K3_u := Lib.hid ((hb.cell (cell_lt K3_u.out)).trans K3_u.out)
  replace BB := Lib.hid (BB.out.trans (hb.mono BB.out.size)); clear hb
  (try go_wp2_with fail)
  clear hHeld
  refine hK.out _ _ ?_ (fun hHeld => ?_)
  · (try dsimp only); exact ⟨K0_w.out, K1_w.out, K2_w.out, K3_w.out, K0_x.out, K1_x.out, K2_x.out, K3_x.out, K0_y.out, K1_y.out, K2_y.out, K3_y.out, K0_n.out, K0_m.out, K0_k.out, K0_a.out, K1_a.out, K2_a.out, K3_a.out, K0_d.out, K1_d.out, K2_d.out, K3_d.out, K0_o.out, K1_o.out, K2_o.out, K3_o.out, K0_u.out, K1_u.out, K2_u.out, K3_u.out⟩
  clear hK K
  (try simp only [Act.put, List.setIfInBounds_toArray, List.set_cons_zero, List.set_cons_succ])
  refine wpAnyH_ready (rs := [3]) (by kernel_rfl) (by simp) ?_
  refine AllReadyH.cons (o := { dst := some 91, op := Op.call { callee := Callee.value (Operand.func 19), args := #[Operand.tmp 88, Operand.tmp 90], argTypes := #[22, 22] }, type := 4, pos := "laws.go:585", after := #[{ on := 0, ground := Ground.data }, { on := 2, ground := Ground.data }, { on := 2, ground := Ground.chain }], guard := none }) rfl (fun K hK => ?_) AllReadyH.nil
  go_simp
  refine (sameBV HEB.out Hd_b.out HR.out (by omega)).mono ?_
  rintro e wx ⟨rfl, hb⟩
  clear HR
  replace Hd_w := Lib.hid (Hd_w.out.on hb)
  replace Hd_x := Lib.hid (Hd_x.out.on hb)
  replace Hd_y := Lib.hid (Hd_y.out.on hb)
  replace Hd_n := Lib.hid (Hd_n.out.on hb)
  replace Hd_m := Lib.hid (Hd_m.out.on hb)
  replace Hd_k := Lib.hid (Hd_k.out.on hb)
  replace Hd_a := Lib.hid (Hd_a.out.on hb)
  replace Hd_d := Lib.hid (Hd_d.out.on hb)
  replace Hd_o := Lib.hid (Hd_o.out.on hb)
  replace Hd_u := Lib.hid (Hd_u.out.on hb)
  replace Hd_b := Lib.hid (Hd_b.out.on hb)
  replace Hd_p := Lib.hid (Hd_p.out.on hb)
  replace Hd_t := Lib.hid (Hd_t.out.on hb)
  replace K0_w := Lib.hid ((hb.cell (cell_lt K0_w.out)).trans K0_w.out)
  replace K1_w := Lib.hid ((hb.cell (cell_lt K1_w.out)).trans K1_w.out)
  replace K2_w := Lib.hid ((hb.cell (cell_lt K2_w.out)).trans K2_w.out)
  replace K3_w := Lib.hid ((hb.cell (cell_lt K3_w.out)).trans K3_w.out)
  replace K0_x := Lib.hid ((hb.cell (cell_lt K0_x.out)).trans K0_x.out)
  replace K1_x := Lib.hid ((hb.cell (cell_lt K1_x.out)).trans K1_x.out)
  replace K2_x := Lib.hid ((hb.cell (cell_lt K2_x.out)).trans K2_x.out)
  replace K3_x := Lib.hid ((hb.cell (cell_lt K3_x.out)).trans K3_x.out)
  replace K0_y := Lib.hid ((hb.cell (cell_lt K0_y.out)).trans K0_y.out)
  replace K1_y := Lib.hid ((hb.cell (cell_lt K1_y.out)).trans K1_y.out)
  replace K2_y := Lib.hid ((hb.cell (cell_lt K2_y.out)).trans K2_y.out)
  replace K3_y := Lib.hid ((hb.cell (cell_lt K3_y.out)).trans K3_y.out)
  replace K0_n := Lib.hid ((hb.cell (cell_lt K0_n.out)).trans K0_n.out)
  replace K0_m := Lib.hid ((hb.cell (cell_lt K0_m.out)).trans K0_m.out)
  replace K0_k := Lib.hid ((hb.cell (cell_lt K0_k.out)).trans K0_k.out)
  replace K0_a := Lib.hid ((hb.cell (cell_lt K0_a.out)).trans K0_a.out)
  replace K1_a := Lib.hid ((hb.cell (cell_lt K1_a.out)).trans K1_a.out)
  replace K2_a := Lib.hid ((hb.cell (cell_lt K2_a.out)).trans K2_a.out)
  replace K3_a := Lib.hid ((hb.cell (cell_lt K3_a.out)).trans K3_a.out)
  replace K0_d := Lib.hid ((hb.cell (cell_lt K0_d.out)).trans K0_d.out)
  replace K1_d := Lib.hid ((hb.cell (cell_lt K1_d.out)).trans K1_d.out)
  replace K2_d := Lib.hid ((hb.cell (cell_lt K2_d.out)).trans K2_d.out)
  replace K3_d := Lib.hid ((hb.cell (cell_lt K3_d.out)).trans K3_d.out)
  replace K0_o := Lib.hid ((hb.cell (cell_lt K0_o.out)).trans K0_o.out)
  replace K1_o := Lib.hid ((hb.cell (cell_lt K1_o.out)).trans K1_o.out)
  replace K2_o := Lib.hid ((hb.cell (cell_lt K2_o.out)).trans K2_o.out)
  replace K3_o := Lib.hid ((hb.cell (cell_lt K3_o.out)).trans K3_o.out)
  replace K0_u := Lib.hid ((hb.cell (cell_lt K0_u.out)).trans K0_u.out)
  replace K1_u := Lib.hid ((hb.cell (cell_lt K1_u.out)).trans K1_u.out)
  replace K2_u := Lib.hid ((hb.cell (cell_lt K2_u.out)).trans K2_u.out)
  replace K3_u := Lib.hid ((hb.cell (cell_lt K3_u.out)).trans K3_u.out)
  replace BB := Lib.hid (BB.out.trans (hb.mono BB.out.size)); clear hb
  (try go_wp2_with fail)
  clear hHeld
  refine hK.out _ _ ?_ (fun hHeld => ?_)
  · (try dsimp only); exact ⟨K0_w.out, K1_w.out, K2_w.out, K3_w.out, K0_x.out, K1_x.out, K2_x.out, K3_x.out, K0_y.out, K1_y.out, K2_y.out, K3_y.out, K0_n.out, K0_m.out, K0_k.out, K0_a.out, K1_a.out, K2_a.out, K3_a.out, K0_d.out, K1_d.out, K2_d.out, K3_d.out, K0_o.out, K1_o.out, K2_o.out, K3_o.out, K0_u.out, K1_u.out, K2_u.out, K3_u.out⟩
  clear hK K
  (try simp only [Act.put, List.setIfInBounds_toArray, List.set_cons_zero, List.set_cons_succ])
  refine wpAnyH_take (i := 4) (oi := { dst := some 92, op := Op.unOp UnOp.not 4 (Operand.tmp 91), type := 4, pos := "laws.go:585", after := #[{ on := 3, ground := Ground.data }], guard := none }) (v := ?_) rfl (by kernel_rfl) (by kernel_rfl) (by kernel_rfl) (fun _ _ _ h => h) (Or.inl ⟨by rfl, ?_⟩) (by assumption) ?_
  rotate_left
  · intro w' hSw; (try dsimp only at hSw); first | (go_simp; done) | (go_simp; with_reducible rfl)
  (try simp only [Act.put, List.setIfInBounds_toArray, List.set_cons_zero, List.set_cons_succ])
  refine wpAnyH_take (i := 5) (oi := { dst := some 93, op := Op.move (Operand.tmp 92), type := 4, pos := "laws.go:585", after := #[{ on := 4, ground := Ground.data }, { on := 3, ground := Ground.chain }], guard := none }) (v := ?_) rfl (by kernel_rfl) (by kernel_rfl) (by kernel_rfl) (fun _ _ _ h => h) (Or.inl ⟨by rfl, ?_⟩) (by assumption) ?_
  rotate_left
  · intro w' hSw; (try dsimp only at hSw); first | (go_simp; done) | (go_simp; with_reducible rfl)
  (try simp only [Act.put, List.setIfInBounds_toArray, List.set_cons_zero, List.set_cons_succ])
  refine wpAnyH_take (i := 6) (oi := { dst := some 94, op := Op.load 28 (Operand.tmp 6), type := 28, pos := "laws.go:585", after := #[{ on := 5, ground := Ground.guard }], guard := some (5, false) }) (v := ?_) rfl (by kernel_rfl) (by kernel_rfl) (by kernel_rfl) (fun _ _ _ h => h) (Or.inl ⟨by rfl, ?_⟩) (by assumption) ?_
  rotate_left
  · intro w' hSw; (try dsimp only at hSw); first | (go_simp; done) | (go_simp; with_reducible rfl)
  (try simp only [Act.put, List.setIfInBounds_toArray, List.set_cons_zero, List.set_cons_succ])
  refine wpAnyH_take (i := 7) (oi := { dst := some 95, op := Op.load 28 (Operand.tmp 8), type := 28, pos := "laws.go:585", after := #[{ on := 5, ground := Ground.guard }], guard := some (5, false) }) (v := ?_) rfl (by kernel_rfl) (by kernel_rfl) (by kernel_rfl) (fun _ _ _ h => h) (Or.inl ⟨by rfl, ?_⟩) (by assumption) ?_
  rotate_left
  · intro w' hSw; (try dsimp only at hSw); first | (go_simp; done) | (go_simp; with_reducible rfl)
  (try simp only [Act.put, List.setIfInBounds_toArray, List.set_cons_zero, List.set_cons_succ])
  refine wpAnyH_ready (rs := [8]) (by kernel_rfl) (by simp) ?_
  refine AllReadyH.cons (o := { dst := some 96, op := Op.call { callee := Callee.value (Operand.func 21), args := #[Operand.tmp 94, Operand.tmp 95], argTypes := #[28, 28] }, type := 4, pos := "laws.go:585", after := #[{ on := 6, ground := Ground.data }, { on := 7, ground := Ground.data }, { on := 5, ground := Ground.chain }, { on := 5, ground := Ground.guard }], guard := some (5, false) }) rfl (fun K hK => ?_) AllReadyH.nil
  go_simp
  refine (sameWV true (eqW_self xx) Hd_x.out Hd_y.out (by omega) (by omega)).mono ?_
  rintro e wx ⟨rfl, hb⟩
  replace Hd_w := Lib.hid (Hd_w.out.on hb)
  replace Hd_x := Lib.hid (Hd_x.out.on hb)
  replace Hd_y := Lib.hid (Hd_y.out.on hb)
  replace Hd_n := Lib.hid (Hd_n.out.on hb)
  replace Hd_m := Lib.hid (Hd_m.out.on hb)
  replace Hd_k := Lib.hid (Hd_k.out.on hb)
  replace Hd_a := Lib.hid (Hd_a.out.on hb)
  replace Hd_d := Lib.hid (Hd_d.out.on hb)
  replace Hd_o := Lib.hid (Hd_o.out.on hb)
  replace Hd_u := Lib.hid (Hd_u.out.on hb)
  replace Hd_b := Lib.hid (Hd_b.out.on hb)
  replace Hd_p := Lib.hid (Hd_p.out.on hb)
  replace Hd_t := Lib.hid (Hd_t.out.on hb)
  replace K0_w := Lib.hid ((hb.cell (cell_lt K0_w.out)).trans K0_w.out)
  replace K1_w := Lib.hid ((hb.cell (cell_lt K1_w.out)).trans K1_w.out)
  replace K2_w := Lib.hid ((hb.cell (cell_lt K2_w.out)).trans K2_w.out)
  replace K3_w := Lib.hid ((hb.cell (cell_lt K3_w.out)).trans K3_w.out)
  replace K0_x := Lib.hid ((hb.cell (cell_lt K0_x.out)).trans K0_x.out)
  replace K1_x := Lib.hid ((hb.cell (cell_lt K1_x.out)).trans K1_x.out)
  replace K2_x := Lib.hid ((hb.cell (cell_lt K2_x.out)).trans K2_x.out)
  replace K3_x := Lib.hid ((hb.cell (cell_lt K3_x.out)).trans K3_x.out)
  replace K0_y := Lib.hid ((hb.cell (cell_lt K0_y.out)).trans K0_y.out)
  replace K1_y := Lib.hid ((hb.cell (cell_lt K1_y.out)).trans K1_y.out)
  replace K2_y := Lib.hid ((hb.cell (cell_lt K2_y.out)).trans K2_y.out)
  replace K3_y := Lib.hid ((hb.cell (cell_lt K3_y.out)).trans K3_y.out)
  replace K0_n := Lib.hid ((hb.cell (cell_lt K0_n.out)).trans K0_n.out)
  replace K0_m := Lib.hid ((hb.cell (cell_lt K0_m.out)).trans K0_m.out)
  replace K0_k := Lib.hid ((hb.cell (cell_lt K0_k.out)).trans K0_k.out)
  replace K0_a := Lib.hid ((hb.cell (cell_lt K0_a.out)).trans K0_a.out)
  replace K1_a := Lib.hid ((hb.cell (cell_lt K1_a.out)).trans K1_a.out)
  replace K2_a := Lib.hid ((hb.cell (cell_lt K2_a.out)).trans K2_a.out)
  replace K3_a := Lib.hid ((hb.cell (cell_lt K3_a.out)).trans K3_a.out)
  replace K0_d := Lib.hid ((hb.cell (cell_lt K0_d.out)).trans K0_d.out)
  replace K1_d := Lib.hid ((hb.cell (cell_lt K1_d.out)).trans K1_d.out)
  replace K2_d := Lib.hid ((hb.cell (cell_lt K2_d.out)).trans K2_d.out)
  replace K3_d := Lib.hid ((hb.cell (cell_lt K3_d.out)).trans K3_d.out)
  replace K0_o := Lib.hid ((hb.cell (cell_lt K0_o.out)).trans K0_o.out)
  replace K1_o := Lib.hid ((hb.cell (cell_lt K1_o.out)).trans K1_o.out)
  replace K2_o := Lib.hid ((hb.cell (cell_lt K2_o.out)).trans K2_o.out)
  replace K3_o := Lib.hid ((hb.cell (cell_lt K3_o.out)).trans K3_o.out)
  replace K0_u := Lib.hid ((hb.cell (cell_lt K0_u.out)).trans K0_u.out)
  replace K1_u := Lib.hid ((hb.cell (cell_lt K1_u.out)).trans K1_u.out)
  replace K2_u := Lib.hid ((hb.cell (cell_lt K2_u.out)).trans K2_u.out)
  replace K3_u := Lib.hid ((hb.cell (cell_lt K3_u.out)).trans K3_u.out)
  replace BB := Lib.hid (BB.out.trans (hb.mono BB.out.size)); clear hb
  (try go_wp2_with fail)
  clear hHeld
  refine hK.out _ _ ?_ (fun hHeld => ?_)
  · (try dsimp only); exact ⟨K0_w.out, K1_w.out, K2_w.out, K3_w.out, K0_x.out, K1_x.out, K2_x.out, K3_x.out, K0_y.out, K1_y.out, K2_y.out, K3_y.out, K0_n.out, K0_m.out, K0_k.out, K0_a.out, K1_a.out, K2_a.out, K3_a.out, K0_d.out, K1_d.out, K2_d.out, K3_d.out, K0_o.out, K1_o.out, K2_o.out, K3_o.out, K0_u.out, K1_u.out, K2_u.out, K3_u.out⟩
  clear hK K
  (try simp only [Act.put, List.setIfInBounds_toArray, List.set_cons_zero, List.set_cons_succ])
  refine wpAnyH_take (i := 9) (oi := { dst := some 97, op := Op.unOp UnOp.not 4 (Operand.tmp 96), type := 4, pos := "laws.go:585", after := #[{ on := 8, ground := Ground.data }, { on := 5, ground := Ground.guard }], guard := some (5, false) }) (v := ?_) rfl (by kernel_rfl) (by kernel_rfl) (by kernel_rfl) (fun _ _ _ h => h) (Or.inl ⟨by rfl, ?_⟩) (by assumption) ?_
  rotate_left
  · intro w' hSw; (try dsimp only at hSw); first | (go_simp; done) | (go_simp; with_reducible rfl)
  (try simp only [Act.put, List.setIfInBounds_toArray, List.set_cons_zero, List.set_cons_succ])
  refine wpAnyH_take (i := 10) (oi := { dst := some 98, op := Op.pick (Operand.tmp 93) (Operand.const (Value.bool true)) (Operand.tmp 97), type := 4, pos := "laws.go:585", after := #[{ on := 5, ground := Ground.data }, { on := 9, ground := Ground.data }], guard := none }) (v := ?_) rfl (by kernel_rfl) (by kernel_rfl) (by kernel_rfl) (fun _ _ _ h => h) (Or.inl ⟨by rfl, ?_⟩) (by assumption) ?_
  rotate_left
  · intro w' hSw; (try dsimp only at hSw); first | (go_simp; done) | (go_simp; with_reducible rfl)
  (try simp only [Act.put, List.setIfInBounds_toArray, List.set_cons_zero, List.set_cons_succ])
  refine wpAnyH_take (i := 11) (oi := { dst := some 99, op := Op.move (Operand.tmp 98), type := 4, pos := "laws.go:585", after := #[{ on := 10, ground := Ground.data }, { on := 8, ground := Ground.chain }], guard := none }) (v := ?_) rfl (by kernel_rfl) (by kernel_rfl) (by kernel_rfl) (fun _ _ _ h => h) (Or.inl ⟨by rfl, ?_⟩) (by assumption) ?_
  rotate_left
  · intro w' hSw; (try dsimp only at hSw); first | (go_simp; done) | (go_simp; with_reducible rfl)
  (try simp only [Act.put, List.setIfInBounds_toArray, List.set_cons_zero, List.set_cons_succ])
  refine wpAnyH_take (i := 12) (oi := { dst := some 100, op := Op.move (Operand.tmp 7), type := 4, pos := "laws.go:585", after := #[{ on := 11, ground := Ground.guard }], guard := some (11, false) }) (v := ?_) rfl (by kernel_rfl) (by kernel_rfl) (by kernel_rfl) (fun _ _ _ h => h) (Or.inl ⟨by rfl, ?_⟩) (by assumption) ?_
  rotate_left
  · intro w' hSw; (try dsimp only at hSw); first | (go_simp; done) | (go_simp; with_reducible rfl)
  (try simp only [Act.put, List.setIfInBounds_toArray, List.set_cons_zero, List.set_cons_succ])
  refine wpAnyH_take (i := 13) (oi := { dst := some 101, op := Op.move (Operand.tmp 9), type := 4, pos := "laws.go:585", after := #[{ on := 11, ground := Ground.guard }], guard := some (11, false) }) (v := ?_) rfl (by kernel_rfl) (by kernel_rfl) (by kernel_rfl) (fun _ _ _ h => h) (Or.inl ⟨by rfl, ?_⟩) (by assumption) ?_
  rotate_left
  · intro w' hSw; (try dsimp only at hSw); first | (go_simp; done) | (go_simp; with_reducible rfl)
  (try simp only [Act.put, List.setIfInBounds_toArray, List.set_cons_zero, List.set_cons_succ])
  refine wpAnyH_take (i := 14) (oi := { dst := some 102, op := Op.binOp BinOp.neq 4 (Operand.tmp 100) (Operand.tmp 101) 4, type := 4, pos := "laws.go:585", after := #[{ on := 12, ground := Ground.data }, { on := 13, ground := Ground.data }, { on := 11, ground := Ground.guard }], guard := some (11, false) }) (v := ?_) rfl (by kernel_rfl) (by kernel_rfl) (by kernel_rfl) (fun _ _ _ h => h) (Or.inl ⟨by rfl, ?_⟩) (by assumption) ?_
  rotate_left
  · intro w' hSw; (try dsimp only at hSw); first | (go_simp; done) | (go_simp; with_reducible rfl)
  (try simp only [Act.put, List.setIfInBounds_toArray, List.set_cons_zero, List.set_cons_succ])
  refine wpAnyH_take (i := 15) (oi := { dst := some 103, op := Op.pick (Operand.tmp 99) (Operand.const (Value.bool true)) (Operand.tmp 102), type := 4, pos := "laws.go:585", after := #[{ on := 11, ground := Ground.data }, { on := 14, ground := Ground.data }], guard := none }) (v := ?_) rfl (by kernel_rfl) (by kernel_rfl) (by kernel_rfl) (fun _ _ _ h => h) (Or.inl ⟨by rfl, ?_⟩) (by assumption) ?_
  rotate_left
  · intro w' hSw; (try dsimp only at hSw); first | (go_simp; done) | (go_simp; with_reducible rfl)
  (try simp only [Act.put, List.setIfInBounds_toArray, List.set_cons_zero, List.set_cons_succ])
  refine wpAnyH_take (i := 16) (oi := { dst := some 104, op := Op.move (Operand.tmp 103), type := 4, pos := "laws.go:585", after := #[{ on := 15, ground := Ground.data }, { on := 11, ground := Ground.chain }], guard := none }) (v := ?_) rfl (by kernel_rfl) (by kernel_rfl) (by kernel_rfl) (fun _ _ _ h => h) (Or.inl ⟨by rfl, ?_⟩) (by assumption) ?_
  rotate_left
  · intro w' hSw; (try dsimp only at hSw); first | (go_simp; done) | (go_simp; with_reducible rfl)
  (try simp only [Act.put, List.setIfInBounds_toArray, List.set_cons_zero, List.set_cons_succ])
  refine wpAnyH_take (i := 17) (oi := { dst := some 105, op := Op.move (Operand.tmp 10), type := 22, pos := "laws.go:585", after := #[{ on := 16, ground := Ground.guard }], guard := some (16, false) }) (v := ?_) rfl (by kernel_rfl) (by kernel_rfl) (by kernel_rfl) (fun _ _ _ h => h) (Or.inl ⟨by rfl, ?_⟩) (by assumption) ?_
  rotate_left
  · intro w' hSw; (try dsimp only at hSw); first | (go_simp; done) | (go_simp; with_reducible rfl)
  (try simp only [Act.put, List.setIfInBounds_toArray, List.set_cons_zero, List.set_cons_succ])
  refine wpAnyH_take (i := 18) (oi := { dst := some 106, op := Op.load 26 (Operand.tmp 11), type := 26, pos := "laws.go:585", after := #[{ on := 16, ground := Ground.guard }], guard := some (16, false) }) (v := ?_) rfl (by kernel_rfl) (by kernel_rfl) (by kernel_rfl) (fun _ _ _ h => h) (Or.inl ⟨by rfl, ?_⟩) (by assumption) ?_
  rotate_left
  · intro w' hSw; (try dsimp only at hSw); first | (go_simp; done) | (go_simp; with_reducible rfl)
  (try simp only [Act.put, List.setIfInBounds_toArray, List.set_cons_zero, List.set_cons_succ])
  refine wpAnyH_take (i := 20) (oi := { dst := some 108, op := Op.move (Operand.tmp 10), type := 22, pos := "laws.go:585", after := #[{ on := 16, ground := Ground.guard }], guard := some (16, false) }) (v := ?_) rfl (by kernel_rfl) (by kernel_rfl) (by kernel_rfl) (fun _ _ _ h => h) (Or.inl ⟨by rfl, ?_⟩) (by assumption) ?_
  rotate_left
  · intro w' hSw; (try dsimp only at hSw); first | (go_simp; done) | (go_simp; with_reducible rfl)
  (try simp only [Act.put, List.setIfInBounds_toArray, List.set_cons_zero, List.set_cons_succ])
  refine wpAnyH_take (i := 21) (oi := { dst := some 109, op := Op.load 26 (Operand.tmp 11), type := 26, pos := "laws.go:585", after := #[{ on := 16, ground := Ground.guard }], guard := some (16, false) }) (v := ?_) rfl (by kernel_rfl) (by kernel_rfl) (by kernel_rfl) (fun _ _ _ h => h) (Or.inl ⟨by rfl, ?_⟩) (by assumption) ?_
  rotate_left
  · intro w' hSw; (try dsimp only at hSw); first | (go_simp; done) | (go_simp; with_reducible rfl)
  (try simp only [Act.put, List.setIfInBounds_toArray, List.set_cons_zero, List.set_cons_succ])
  refine wpAnyH_ready (rs := [19]) (by kernel_rfl) (by simp) ?_
  refine AllReadyH.cons (o := { dst := some 107, op := Op.call { callee := Callee.value (Operand.func 22), args := #[Operand.tmp 105, Operand.tmp 106], argTypes := #[22, 26] }, type := 22, pos := "laws.go:585", after := #[{ on := 17, ground := Ground.data }, { on := 18, ground := Ground.data }, { on := 16, ground := Ground.chain }, { on := 16, ground := Ground.guard }], guard := some (16, false) }) rfl (fun K hK => ?_) AllReadyH.nil
  go_simp
  refine (implAppendNameK _ _ ep ln _ Hd_p.out Hd_n.out (by omega) (by omega)).mono ?_
  rintro e wx ⟨U_s, rfl, o_s, hb⟩
  obtain ⟨x_s, n_s, c_s, rfl, o_s⟩ := kB_shape o_s
  have HS := Lib.hid o_s.at; clear o_s
  replace Hd_w := Lib.hid (Hd_w.out.on hb)
  replace Hd_x := Lib.hid (Hd_x.out.on hb)
  replace Hd_y := Lib.hid (Hd_y.out.on hb)
  replace Hd_n := Lib.hid (Hd_n.out.on hb)
  replace Hd_m := Lib.hid (Hd_m.out.on hb)
  replace Hd_k := Lib.hid (Hd_k.out.on hb)
  replace Hd_a := Lib.hid (Hd_a.out.on hb)
  replace Hd_d := Lib.hid (Hd_d.out.on hb)
  replace Hd_o := Lib.hid (Hd_o.out.on hb)
  replace Hd_u := Lib.hid (Hd_u.out.on hb)
  replace Hd_b := Lib.hid (Hd_b.out.on hb)
  replace Hd_p := Lib.hid (Hd_p.out.on hb)
  replace Hd_t := Lib.hid (Hd_t.out.on hb)
  replace K0_w := Lib.hid ((hb.cell (cell_lt K0_w.out)).trans K0_w.out)
  replace K1_w := Lib.hid ((hb.cell (cell_lt K1_w.out)).trans K1_w.out)
  replace K2_w := Lib.hid ((hb.cell (cell_lt K2_w.out)).trans K2_w.out)
  replace K3_w := Lib.hid ((hb.cell (cell_lt K3_w.out)).trans K3_w.out)
  replace K0_x := Lib.hid ((hb.cell (cell_lt K0_x.out)).trans K0_x.out)
  replace K1_x := Lib.hid ((hb.cell (cell_lt K1_x.out)).trans K1_x.out)
  replace K2_x := Lib.hid ((hb.cell (cell_lt K2_x.out)).trans K2_x.out)
  replace K3_x := Lib.hid ((hb.cell (cell_lt K3_x.out)).trans K3_x.out)
  replace K0_y := Lib.hid ((hb.cell (cell_lt K0_y.out)).trans K0_y.out)
  replace K1_y := Lib.hid ((hb.cell (cell_lt K1_y.out)).trans K1_y.out)
  replace K2_y := Lib.hid ((hb.cell (cell_lt K2_y.out)).trans K2_y.out)
  replace K3_y := Lib.hid ((hb.cell (cell_lt K3_y.out)).trans K3_y.out)
  replace K0_n := Lib.hid ((hb.cell (cell_lt K0_n.out)).trans K0_n.out)
  replace K0_m := Lib.hid ((hb.cell (cell_lt K0_m.out)).trans K0_m.out)
  replace K0_k := Lib.hid ((hb.cell (cell_lt K0_k.out)).trans K0_k.out)
  replace K0_a := Lib.hid ((hb.cell (cell_lt K0_a.out)).trans K0_a.out)
  replace K1_a := Lib.hid ((hb.cell (cell_lt K1_a.out)).trans K1_a.out)
  replace K2_a := Lib.hid ((hb.cell (cell_lt K2_a.out)).trans K2_a.out)
  replace K3_a := Lib.hid ((hb.cell (cell_lt K3_a.out)).trans K3_a.out)
  replace K0_d := Lib.hid ((hb.cell (cell_lt K0_d.out)).trans K0_d.out)
  replace K1_d := Lib.hid ((hb.cell (cell_lt K1_d.out)).trans K1_d.out)
  replace K2_d := Lib.hid ((hb.cell (cell_lt K2_d.out)).trans K2_d.out)
  replace K3_d := Lib.hid ((hb.cell (cell_lt K3_d.out)).trans K3_d.out)
  replace K0_o := Lib.hid ((hb.cell (cell_lt K0_o.out)).trans K0_o.out)
  replace K1_o := Lib.hid ((hb.cell (cell_lt K1_o.out)).trans K1_o.out)
  replace K2_o := Lib.hid ((hb.cell (cell_lt K2_o.out)).trans K2_o.out)
  replace K3_o := Lib.hid ((hb.cell (cell_lt K3_o.out)).trans K3_o.out)
  replace K0_u := Lib.hid ((hb.cell (cell_lt K0_u.out)).trans K0_u.out)
  replace K1_u := Lib.hid ((hb.cell (cell_lt K1_u.out)).trans K1_u.out)
  replace K2_u := Lib.hid ((hb.cell (cell_lt K2_u.out)).trans K2_u.out)
  replace K3_u := Lib.hid ((hb.cell (cell_lt K3_u.out)).trans K3_u.out)
  replace BB := Lib.hid (BB.out.trans (hb.mono BB.out.size)); clear hb
  (try go_wp2_with fail)
  clear hHeld
  refine hK.out _ _ ?_ (fun hHeld => ?_)
  · (try dsimp only); exact ⟨K0_w.out, K1_w.out, K2_w.out, K3_w.out, K0_x.out, K1_x.out, K2_x.out, K3_x.out, K0_y.out, K1_y.out, K2_y.out, K3_y.out, K0_n.out, K0_m.out, K0_k.out, K0_a.out, K1_a.out, K2_a.out, K3_a.out, K0_d.out, K1_d.out, K2_d.out, K3_d.out, K0_o.out, K1_o.out, K2_o.out, K3_o.out, K0_u.out, K1_u.out, K2_u.out, K3_u.out⟩
  clear hK K
  (try simp only [Act.put, List.setIfInBounds_toArray, List.set_cons_zero, List.set_cons_succ])
  refine wpAnyH_ready (rs := [22]) (by kernel_rfl) (by simp) ?_
  refine AllReadyH.cons (o := { dst := some 110, op := Op.call { callee := Callee.value (Operand.func 23), args := #[Operand.tmp 108, Operand.tmp 109], argTypes := #[22, 26] }, type := 22, pos := "laws.go:585", after := #[{ on := 20, ground := Ground.data }, { on := 21, ground := Ground.data }, { on := 19, ground := Ground.chain }, { on := 16, ground := Ground.guard }], guard := some (16, false) }) rfl (fun K hK => ?_) AllReadyH.nil
  go_simp
  refine (specAppendNameK _ _ ep ln _ Hd_p.out Hd_n.out (by omega) (by omega)).mono ?_
  rintro e wx ⟨U_t, rfl, o_t, hb⟩
  obtain ⟨x_t, n_t, c_t, rfl, o_t⟩ := kB_shape o_t
  have HT := Lib.hid o_t.at; clear o_t
  replace HS := Lib.hid (HS.out.on hb)
  replace Hd_w := Lib.hid (Hd_w.out.on hb)
  replace Hd_x := Lib.hid (Hd_x.out.on hb)
  replace Hd_y := Lib.hid (Hd_y.out.on hb)
  replace Hd_n := Lib.hid (Hd_n.out.on hb)
  replace Hd_m := Lib.hid (Hd_m.out.on hb)
  replace Hd_k := Lib.hid (Hd_k.out.on hb)
  replace Hd_a := Lib.hid (Hd_a.out.on hb)
  replace Hd_d := Lib.hid (Hd_d.out.on hb)
  replace Hd_o := Lib.hid (Hd_o.out.on hb)
  replace Hd_u := Lib.hid (Hd_u.out.on hb)
  replace Hd_b := Lib.hid (Hd_b.out.on hb)
  replace Hd_p := Lib.hid (Hd_p.out.on hb)
  replace Hd_t := Lib.hid (Hd_t.out.on hb)
  replace K0_w := Lib.hid ((hb.cell (cell_lt K0_w.out)).trans K0_w.out)
  replace K1_w := Lib.hid ((hb.cell (cell_lt K1_w.out)).trans K1_w.out)
  replace K2_w := Lib.hid ((hb.cell (cell_lt K2_w.out)).trans K2_w.out)
  replace K3_w := Lib.hid ((hb.cell (cell_lt K3_w.out)).trans K3_w.out)
  replace K0_x := Lib.hid ((hb.cell (cell_lt K0_x.out)).trans K0_x.out)
  replace K1_x := Lib.hid ((hb.cell (cell_lt K1_x.out)).trans K1_x.out)
  replace K2_x := Lib.hid ((hb.cell (cell_lt K2_x.out)).trans K2_x.out)
  replace K3_x := Lib.hid ((hb.cell (cell_lt K3_x.out)).trans K3_x.out)
  replace K0_y := Lib.hid ((hb.cell (cell_lt K0_y.out)).trans K0_y.out)
  replace K1_y := Lib.hid ((hb.cell (cell_lt K1_y.out)).trans K1_y.out)
  replace K2_y := Lib.hid ((hb.cell (cell_lt K2_y.out)).trans K2_y.out)
  replace K3_y := Lib.hid ((hb.cell (cell_lt K3_y.out)).trans K3_y.out)
  replace K0_n := Lib.hid ((hb.cell (cell_lt K0_n.out)).trans K0_n.out)
  replace K0_m := Lib.hid ((hb.cell (cell_lt K0_m.out)).trans K0_m.out)
  replace K0_k := Lib.hid ((hb.cell (cell_lt K0_k.out)).trans K0_k.out)
  replace K0_a := Lib.hid ((hb.cell (cell_lt K0_a.out)).trans K0_a.out)
  replace K1_a := Lib.hid ((hb.cell (cell_lt K1_a.out)).trans K1_a.out)
  replace K2_a := Lib.hid ((hb.cell (cell_lt K2_a.out)).trans K2_a.out)
  replace K3_a := Lib.hid ((hb.cell (cell_lt K3_a.out)).trans K3_a.out)
  replace K0_d := Lib.hid ((hb.cell (cell_lt K0_d.out)).trans K0_d.out)
  replace K1_d := Lib.hid ((hb.cell (cell_lt K1_d.out)).trans K1_d.out)
  replace K2_d := Lib.hid ((hb.cell (cell_lt K2_d.out)).trans K2_d.out)
  replace K3_d := Lib.hid ((hb.cell (cell_lt K3_d.out)).trans K3_d.out)
  replace K0_o := Lib.hid ((hb.cell (cell_lt K0_o.out)).trans K0_o.out)
  replace K1_o := Lib.hid ((hb.cell (cell_lt K1_o.out)).trans K1_o.out)
  replace K2_o := Lib.hid ((hb.cell (cell_lt K2_o.out)).trans K2_o.out)
  replace K3_o := Lib.hid ((hb.cell (cell_lt K3_o.out)).trans K3_o.out)
  replace K0_u := Lib.hid ((hb.cell (cell_lt K0_u.out)).trans K0_u.out)
  replace K1_u := Lib.hid ((hb.cell (cell_lt K1_u.out)).trans K1_u.out)
  replace K2_u := Lib.hid ((hb.cell (cell_lt K2_u.out)).trans K2_u.out)
  replace K3_u := Lib.hid ((hb.cell (cell_lt K3_u.out)).trans K3_u.out)
  replace BB := Lib.hid (BB.out.trans (hb.mono BB.out.size)); clear hb
  (try go_wp2_with fail)
  clear hHeld
  refine hK.out _ _ ?_ (fun hHeld => ?_)
  · (try dsimp only); exact ⟨K0_w.out, K1_w.out, K2_w.out, K3_w.out, K0_x.out, K1_x.out, K2_x.out, K3_x.out, K0_y.out, K1_y.out, K2_y.out, K3_y.out, K0_n.out, K0_m.out, K0_k.out, K0_a.out, K1_a.out, K2_a.out, K3_a.out, K0_d.out, K1_d.out, K2_d.out, K3_d.out, K0_o.out, K1_o.out, K2_o.out, K3_o.out, K0_u.out, K1_u.out, K2_u.out, K3_u.out⟩
  clear hK K
  (try simp only [Act.put, List.setIfInBounds_toArray, List.set_cons_zero, List.set_cons_succ])
  refine wpAnyH_ready (rs := [23]) (by kernel_rfl) (by simp) ?_
  refine AllReadyH.cons (o := { dst := some 111, op := Op.call { callee := Callee.value (Operand.func 19), args := #[Operand.tmp 107, Operand.tmp 110], argTypes := #[22, 22] }, type := 4, pos := "laws.go:585", after := #[{ on := 19, ground := Ground.data }, { on := 22, ground := Ground.data }, { on := 22, ground := Ground.chain }, { on := 16, ground := Ground.guard }], guard := some (16, false) }) rfl (fun K hK => ?_) AllReadyH.nil
  go_simp
  refine (sameBV rfl HS.out HT.out (by have := appName_le ep ln; omega)).mono ?_
  rintro e wx ⟨rfl, hb⟩
  clear HS HT
  replace Hd_w := Lib.hid (Hd_w.out.on hb)
  replace Hd_x := Lib.hid (Hd_x.out.on hb)
  replace Hd_y := Lib.hid (Hd_y.out.on hb)
  replace Hd_n := Lib.hid (Hd_n.out.on hb)
  replace Hd_m := Lib.hid (Hd_m.out.on hb)
  replace Hd_k := Lib.hid (Hd_k.out.on hb)
  replace Hd_a := Lib.hid (Hd_a.out.on hb)
  replace Hd_d := Lib.hid (Hd_d.out.on hb)
  replace Hd_o := Lib.hid (Hd_o.out.on hb)
  replace Hd_u := Lib.hid (Hd_u.out.on hb)
  replace Hd_b := Lib.hid (Hd_b.out.on hb)
  replace Hd_p := Lib.hid (Hd_p.out.on hb)
  replace Hd_t := Lib.hid (Hd_t.out.on hb)
  replace K0_w := Lib.hid ((hb.cell (cell_lt K0_w.out)).trans K0_w.out)
  replace K1_w := Lib.hid ((hb.cell (cell_lt K1_w.out)).trans K1_w.out)
  replace K2_w := Lib.hid ((hb.cell (cell_lt K2_w.out)).trans K2_w.out)
  replace K3_w := Lib.hid ((hb.cell (cell_lt K3_w.out)).trans K3_w.out)
  replace K0_x := Lib.hid ((hb.cell (cell_lt K0_x.out)).trans K0_x.out)
  replace K1_x := Lib.hid ((hb.cell (cell_lt K1_x.out)).trans K1_x.out)
  replace K2_x := Lib.hid ((hb.cell (cell_lt K2_x.out)).trans K2_x.out)
  replace K3_x := Lib.hid ((hb.cell (cell_lt K3_x.out)).trans K3_x.out)
  replace K0_y := Lib.hid ((hb.cell (cell_lt K0_y.out)).trans K0_y.out)
  replace K1_y := Lib.hid ((hb.cell (cell_lt K1_y.out)).trans K1_y.out)
  replace K2_y := Lib.hid ((hb.cell (cell_lt K2_y.out)).trans K2_y.out)
  replace K3_y := Lib.hid ((hb.cell (cell_lt K3_y.out)).trans K3_y.out)
  replace K0_n := Lib.hid ((hb.cell (cell_lt K0_n.out)).trans K0_n.out)
  replace K0_m := Lib.hid ((hb.cell (cell_lt K0_m.out)).trans K0_m.out)
  replace K0_k := Lib.hid ((hb.cell (cell_lt K0_k.out)).trans K0_k.out)
  replace K0_a := Lib.hid ((hb.cell (cell_lt K0_a.out)).trans K0_a.out)
  replace K1_a := Lib.hid ((hb.cell (cell_lt K1_a.out)).trans K1_a.out)
  replace K2_a := Lib.hid ((hb.cell (cell_lt K2_a.out)).trans K2_a.out)
  replace K3_a := Lib.hid ((hb.cell (cell_lt K3_a.out)).trans K3_a.out)
  replace K0_d := Lib.hid ((hb.cell (cell_lt K0_d.out)).trans K0_d.out)
  replace K1_d := Lib.hid ((hb.cell (cell_lt K1_d.out)).trans K1_d.out)
  replace K2_d := Lib.hid ((hb.cell (cell_lt K2_d.out)).trans K2_d.out)
  replace K3_d := Lib.hid ((hb.cell (cell_lt K3_d.out)).trans K3_d.out)
  replace K0_o := Lib.hid ((hb.cell (cell_lt K0_o.out)).trans K0_o.out)
  replace K1_o := Lib.hid ((hb.cell (cell_lt K1_o.out)).trans K1_o.out)
  replace K2_o := Lib.hid ((hb.cell (cell_lt K2_o.out)).trans K2_o.out)
  replace K3_o := Lib.hid ((hb.cell (cell_lt K3_o.out)).trans K3_o.out)
  replace K0_u := Lib.hid ((hb.cell (cell_lt K0_u.out)).trans K0_u.out)
  replace K1_u := Lib.hid ((hb.cell (cell_lt K1_u.out)).trans K1_u.out)
  replace K2_u := Lib.hid ((hb.cell (cell_lt K2_u.out)).trans K2_u.out)
  replace K3_u := Lib.hid ((hb.cell (cell_lt K3_u.out)).trans K3_u.out)
  replace BB := Lib.hid (BB.out.trans (hb.mono BB.out.size)); clear hb
  (try go_wp2_with fail)
  clear hHeld
  refine hK.out _ _ ?_ (fun hHeld => ?_)
  · (try dsimp only); exact ⟨K0_w.out, K1_w.out, K2_w.out, K3_w.out, K0_x.out, K1_x.out, K2_x.out, K3_x.out, K0_y.out, K1_y.out, K2_y.out, K3_y.out, K0_n.out, K0_m.out, K0_k.out, K0_a.out, K1_a.out, K2_a.out, K3_a.out, K0_d.out, K1_d.out, K2_d.out, K3_d.out, K0_o.out, K1_o.out, K2_o.out, K3_o.out, K0_u.out, K1_u.out, K2_u.out, K3_u.out⟩
  clear hK K
  (try simp only [Act.put, List.setIfInBounds_toArray, List.set_cons_zero, List.set_cons_succ])
  refine wpAnyH_take (i := 24) (oi := { dst := some 112, op := Op.unOp UnOp.not 4 (Operand.tmp 111), type := 4, pos := "laws.go:585", after := #[{ on := 23, ground := Ground.data }, { on := 16, ground := Ground.guard }], guard := some (16, false) }) (v := ?_) rfl (by kernel_rfl) (by kernel_rfl) (by kernel_rfl) (fun _ _ _ h => h) (Or.inl ⟨by rfl, ?_⟩) (by assumption) ?_
  rotate_left
  · intro w' hSw; (try dsimp only at hSw); first | (go_simp; done) | (go_simp; with_reducible rfl)
  (try simp only [Act.put, List.setIfInBounds_toArray, List.set_cons_zero, List.set_cons_succ])
  refine wpAnyH_take (i := 25) (oi := { dst := some 113, op := Op.pick (Operand.tmp 104) (Operand.const (Value.bool true)) (Operand.tmp 112), type := 4, pos := "laws.go:585", after := #[{ on := 16, ground := Ground.data }, { on := 24, ground := Ground.data }], guard := none }) (v := ?_) rfl (by kernel_rfl) (by kernel_rfl) (by kernel_rfl) (fun _ _ _ h => h) (Or.inl ⟨by rfl, ?_⟩) (by assumption) ?_
  rotate_left
  · intro w' hSw; (try dsimp only at hSw); first | (go_simp; done) | (go_simp; with_reducible rfl)
  (try simp only [Act.put, List.setIfInBounds_toArray, List.set_cons_zero, List.set_cons_succ])
  refine wpAnyH_take (i := 26) (oi := { dst := some 114, op := Op.move (Operand.tmp 113), type := 4, pos := "laws.go:585", after := #[{ on := 25, ground := Ground.data }, { on := 23, ground := Ground.chain }], guard := none }) (v := ?_) rfl (by kernel_rfl) (by kernel_rfl) (by kernel_rfl) (fun _ _ _ h => h) (Or.inl ⟨by rfl, ?_⟩) (by assumption) ?_
  rotate_left
  · intro w' hSw; (try dsimp only at hSw); first | (go_simp; done) | (go_simp; with_reducible rfl)
  (try simp only [Act.put, List.setIfInBounds_toArray, List.set_cons_zero, List.set_cons_succ])
  refine wpAnyH_take (i := 27) (oi := { dst := some 115, op := Op.load 26 (Operand.tmp 14), type := 26, pos := "laws.go:585", after := #[{ on := 26, ground := Ground.guard }], guard := some (26, false) }) (v := ?_) rfl (by kernel_rfl) (by kernel_rfl) (by kernel_rfl) (fun _ _ _ h => h) (Or.inl ⟨by rfl, ?_⟩) (by assumption) ?_
  rotate_left
  · intro w' hSw; (try dsimp only at hSw); first | (go_simp; done) | (go_simp; with_reducible rfl)
  (try simp only [Act.put, List.setIfInBounds_toArray, List.set_cons_zero, List.set_cons_succ])
  refine wpAnyH_take (i := 28) (oi := { dst := some 116, op := Op.load 26 (Operand.tmp 17), type := 26, pos := "laws.go:585", after := #[{ on := 26, ground := Ground.guard }], guard := some (26, false) }) (v := ?_) rfl (by kernel_rfl) (by kernel_rfl) (by kernel_rfl) (fun _ _ _ h => h) (Or.inl ⟨by rfl, ?_⟩) (by assumption) ?_
  rotate_left
  · intro w' hSw; (try dsimp only at hSw); first | (go_simp; done) | (go_simp; with_reducible rfl)
  (try simp only [Act.put, List.setIfInBounds_toArray, List.set_cons_zero, List.set_cons_succ])
  refine wpAnyH_ready (rs := [29]) (by kernel_rfl) (by simp) ?_
  refine AllReadyH.cons (o := { dst := some 117, op := Op.call { callee := Callee.value (Operand.func 24), args := #[Operand.tmp 115, Operand.tmp 116], argTypes := #[26, 26] }, type := 4, pos := "laws.go:585", after := #[{ on := 27, ground := Ground.data }, { on := 28, ground := Ground.data }, { on := 26, ground := Ground.chain }, { on := 26, ground := Ground.guard }], guard := some (26, false) }) rfl (fun K hK => ?_) AllReadyH.nil
  go_simp
  refine (sameNV Hd_m.out Hd_k.out (by omega)).mono ?_
  rintro e wx ⟨rfl, hb⟩
  replace Hd_w := Lib.hid (Hd_w.out.on hb)
  replace Hd_x := Lib.hid (Hd_x.out.on hb)
  replace Hd_y := Lib.hid (Hd_y.out.on hb)
  replace Hd_n := Lib.hid (Hd_n.out.on hb)
  replace Hd_m := Lib.hid (Hd_m.out.on hb)
  replace Hd_k := Lib.hid (Hd_k.out.on hb)
  replace Hd_a := Lib.hid (Hd_a.out.on hb)
  replace Hd_d := Lib.hid (Hd_d.out.on hb)
  replace Hd_o := Lib.hid (Hd_o.out.on hb)
  replace Hd_u := Lib.hid (Hd_u.out.on hb)
  replace Hd_b := Lib.hid (Hd_b.out.on hb)
  replace Hd_p := Lib.hid (Hd_p.out.on hb)
  replace Hd_t := Lib.hid (Hd_t.out.on hb)
  replace K0_w := Lib.hid ((hb.cell (cell_lt K0_w.out)).trans K0_w.out)
  replace K1_w := Lib.hid ((hb.cell (cell_lt K1_w.out)).trans K1_w.out)
  replace K2_w := Lib.hid ((hb.cell (cell_lt K2_w.out)).trans K2_w.out)
  replace K3_w := Lib.hid ((hb.cell (cell_lt K3_w.out)).trans K3_w.out)
  replace K0_x := Lib.hid ((hb.cell (cell_lt K0_x.out)).trans K0_x.out)
  replace K1_x := Lib.hid ((hb.cell (cell_lt K1_x.out)).trans K1_x.out)
  replace K2_x := Lib.hid ((hb.cell (cell_lt K2_x.out)).trans K2_x.out)
  replace K3_x := Lib.hid ((hb.cell (cell_lt K3_x.out)).trans K3_x.out)
  replace K0_y := Lib.hid ((hb.cell (cell_lt K0_y.out)).trans K0_y.out)
  replace K1_y := Lib.hid ((hb.cell (cell_lt K1_y.out)).trans K1_y.out)
  replace K2_y := Lib.hid ((hb.cell (cell_lt K2_y.out)).trans K2_y.out)
  replace K3_y := Lib.hid ((hb.cell (cell_lt K3_y.out)).trans K3_y.out)
  replace K0_n := Lib.hid ((hb.cell (cell_lt K0_n.out)).trans K0_n.out)
  replace K0_m := Lib.hid ((hb.cell (cell_lt K0_m.out)).trans K0_m.out)
  replace K0_k := Lib.hid ((hb.cell (cell_lt K0_k.out)).trans K0_k.out)
  replace K0_a := Lib.hid ((hb.cell (cell_lt K0_a.out)).trans K0_a.out)
  replace K1_a := Lib.hid ((hb.cell (cell_lt K1_a.out)).trans K1_a.out)
  replace K2_a := Lib.hid ((hb.cell (cell_lt K2_a.out)).trans K2_a.out)
  replace K3_a := Lib.hid ((hb.cell (cell_lt K3_a.out)).trans K3_a.out)
  replace K0_d := Lib.hid ((hb.cell (cell_lt K0_d.out)).trans K0_d.out)
  replace K1_d := Lib.hid ((hb.cell (cell_lt K1_d.out)).trans K1_d.out)
  replace K2_d := Lib.hid ((hb.cell (cell_lt K2_d.out)).trans K2_d.out)
  replace K3_d := Lib.hid ((hb.cell (cell_lt K3_d.out)).trans K3_d.out)
  replace K0_o := Lib.hid ((hb.cell (cell_lt K0_o.out)).trans K0_o.out)
  replace K1_o := Lib.hid ((hb.cell (cell_lt K1_o.out)).trans K1_o.out)
  replace K2_o := Lib.hid ((hb.cell (cell_lt K2_o.out)).trans K2_o.out)
  replace K3_o := Lib.hid ((hb.cell (cell_lt K3_o.out)).trans K3_o.out)
  replace K0_u := Lib.hid ((hb.cell (cell_lt K0_u.out)).trans K0_u.out)
  replace K1_u := Lib.hid ((hb.cell (cell_lt K1_u.out)).trans K1_u.out)
  replace K2_u := Lib.hid ((hb.cell (cell_lt K2_u.out)).trans K2_u.out)
  replace K3_u := Lib.hid ((hb.cell (cell_lt K3_u.out)).trans K3_u.out)
  replace BB := Lib.hid (BB.out.trans (hb.mono BB.out.size)); clear hb
  (try go_wp2_with fail)
  clear hHeld
  refine hK.out _ _ ?_ (fun hHeld => ?_)
  · (try dsimp only); exact ⟨K0_w.out, K1_w.out, K2_w.out, K3_w.out, K0_x.out, K1_x.out, K2_x.out, K3_x.out, K0_y.out, K1_y.out, K2_y.out, K3_y.out, K0_n.out, K0_m.out, K0_k.out, K0_a.out, K1_a.out, K2_a.out, K3_a.out, K0_d.out, K1_d.out, K2_d.out, K3_d.out, K0_o.out, K1_o.out, K2_o.out, K3_o.out, K0_u.out, K1_u.out, K2_u.out, K3_u.out⟩
  clear hK K
  (try simp only [Act.put, List.setIfInBounds_toArray, List.set_cons_zero, List.set_cons_succ])
  refine wpAnyH_take (i := 30) (oi := { dst := some 118, op := Op.unOp UnOp.not 4 (Operand.tmp 117), type := 4, pos := "laws.go:585", after := #[{ on := 29, ground := Ground.data }, { on := 26, ground := Ground.guard }], guard := some (26, false) }) (v := ?_) rfl (by kernel_rfl) (by kernel_rfl) (by kernel_rfl) (fun _ _ _ h => h) (Or.inl ⟨by rfl, ?_⟩) (by assumption) ?_
  rotate_left
  · intro w' hSw; (try dsimp only at hSw); first | (go_simp; done) | (go_simp; with_reducible rfl)
  (try simp only [Act.put, List.setIfInBounds_toArray, List.set_cons_zero, List.set_cons_succ])
  refine wpAnyH_take (i := 31) (oi := { dst := some 119, op := Op.pick (Operand.tmp 114) (Operand.const (Value.bool true)) (Operand.tmp 118), type := 4, pos := "laws.go:585", after := #[{ on := 26, ground := Ground.data }, { on := 30, ground := Ground.data }], guard := none }) (v := ?_) rfl (by kernel_rfl) (by kernel_rfl) (by kernel_rfl) (fun _ _ _ h => h) (Or.inl ⟨by rfl, ?_⟩) (by assumption) ?_
  rotate_left
  · intro w' hSw; (try dsimp only at hSw); first | (go_simp; done) | (go_simp; with_reducible rfl)
  (try simp only [Act.put, List.setIfInBounds_toArray, List.set_cons_zero, List.set_cons_succ])
  refine wpAnyH_take (i := 32) (oi := { dst := some 120, op := Op.move (Operand.tmp 119), type := 4, pos := "laws.go:585", after := #[{ on := 31, ground := Ground.data }, { on := 29, ground := Ground.chain }], guard := none }) (v := ?_) rfl (by kernel_rfl) (by kernel_rfl) (by kernel_rfl) (fun _ _ _ h => h) (Or.inl ⟨by rfl, ?_⟩) (by assumption) ?_
  rotate_left
  · intro w' hSw; (try dsimp only at hSw); first | (go_simp; done) | (go_simp; with_reducible rfl)
  (try simp only [Act.put, List.setIfInBounds_toArray, List.set_cons_zero, List.set_cons_succ])
  refine wpAnyH_take (i := 33) (oi := { dst := some 121, op := Op.move (Operand.tmp 15), type := 3, pos := "laws.go:585", after := #[{ on := 32, ground := Ground.guard }], guard := some (32, false) }) (v := ?_) rfl (by kernel_rfl) (by kernel_rfl) (by kernel_rfl) (fun _ _ _ h => h) (Or.inl ⟨by rfl, ?_⟩) (by assumption) ?_
  rotate_left
  · intro w' hSw; (try dsimp only at hSw); first | (go_simp; done) | (go_simp; with_reducible rfl)
  (try simp only [Act.put, List.setIfInBounds_toArray, List.set_cons_zero, List.set_cons_succ])
  refine wpAnyH_take (i := 34) (oi := { dst := some 122, op := Op.move (Operand.tmp 18), type := 3, pos := "laws.go:585", after := #[{ on := 32, ground := Ground.guard }], guard := some (32, false) }) (v := ?_) rfl (by kernel_rfl) (by kernel_rfl) (by kernel_rfl) (fun _ _ _ h => h) (Or.inl ⟨by rfl, ?_⟩) (by assumption) ?_
  rotate_left
  · intro w' hSw; (try dsimp only at hSw); first | (go_simp; done) | (go_simp; with_reducible rfl)
  (try simp only [Act.put, List.setIfInBounds_toArray, List.set_cons_zero, List.set_cons_succ])
  refine wpAnyH_take (i := 35) (oi := { dst := some 123, op := Op.binOp BinOp.neq 3 (Operand.tmp 121) (Operand.tmp 122) 3, type := 4, pos := "laws.go:585", after := #[{ on := 33, ground := Ground.data }, { on := 34, ground := Ground.data }, { on := 32, ground := Ground.guard }], guard := some (32, false) }) (v := ?_) rfl (by kernel_rfl) (by kernel_rfl) (by kernel_rfl) (fun _ _ _ h => h) (Or.inl ⟨by rfl, ?_⟩) (by assumption) ?_
  rotate_left
  · intro w' hSw; (try dsimp only at hSw); first | (go_simp; done) | (go_simp; with_reducible rfl)
  (try simp only [Act.put, List.setIfInBounds_toArray, List.set_cons_zero, List.set_cons_succ])
  refine wpAnyH_take (i := 36) (oi := { dst := some 124, op := Op.pick (Operand.tmp 120) (Operand.const (Value.bool true)) (Operand.tmp 123), type := 4, pos := "laws.go:585", after := #[{ on := 32, ground := Ground.data }, { on := 35, ground := Ground.data }], guard := none }) (v := ?_) rfl (by kernel_rfl) (by kernel_rfl) (by kernel_rfl) (fun _ _ _ h => h) (Or.inl ⟨by rfl, ?_⟩) (by assumption) ?_
  rotate_left
  · intro w' hSw; (try dsimp only at hSw); first | (go_simp; done) | (go_simp; with_reducible rfl)
  (try simp only [Act.put, List.setIfInBounds_toArray, List.set_cons_zero, List.set_cons_succ])
  refine wpAnyH_take (i := 37) (oi := { dst := some 125, op := Op.move (Operand.tmp 124), type := 4, pos := "laws.go:585", after := #[{ on := 36, ground := Ground.data }, { on := 32, ground := Ground.chain }], guard := none }) (v := ?_) rfl (by kernel_rfl) (by kernel_rfl) (by kernel_rfl) (fun _ _ _ h => h) (Or.inl ⟨by rfl, ?_⟩) (by assumption) ?_
  rotate_left
  · intro w' hSw; (try dsimp only at hSw); first | (go_simp; done) | (go_simp; with_reducible rfl)
  (try simp only [Act.put, List.setIfInBounds_toArray, List.set_cons_zero, List.set_cons_succ])
  refine wpAnyH_take (i := 38) (oi := { dst := some 126, op := Op.move (Operand.tmp 16), type := 4, pos := "laws.go:585", after := #[{ on := 37, ground := Ground.guard }], guard := some (37, false) }) (v := ?_) rfl (by kernel_rfl) (by kernel_rfl) (by kernel_rfl) (fun _ _ _ h => h) (Or.inl ⟨by rfl, ?_⟩) (by assumption) ?_
  rotate_left
  · intro w' hSw; (try dsimp only at hSw); first | (go_simp; done) | (go_simp; with_reducible rfl)
  (try simp only [Act.put, List.setIfInBounds_toArray, List.set_cons_zero, List.set_cons_succ])
  refine wpAnyH_take (i := 39) (oi := { dst := some 127, op := Op.move (Operand.tmp 19), type := 4, pos := "laws.go:585", after := #[{ on := 37, ground := Ground.guard }], guard := some (37, false) }) (v := ?_) rfl (by kernel_rfl) (by kernel_rfl) (by kernel_rfl) (fun _ _ _ h => h) (Or.inl ⟨by rfl, ?_⟩) (by assumption) ?_
  rotate_left
  · intro w' hSw; (try dsimp only at hSw); first | (go_simp; done) | (go_simp; with_reducible rfl)
  (try simp only [Act.put, List.setIfInBounds_toArray, List.set_cons_zero, List.set_cons_succ])
  refine wpAnyH_take (i := 40) (oi := { dst := some 128, op := Op.binOp BinOp.neq 4 (Operand.tmp 126) (Operand.tmp 127) 4, type := 4, pos := "laws.go:585", after := #[{ on := 38, ground := Ground.data }, { on := 39, ground := Ground.data }, { on := 37, ground := Ground.guard }], guard := some (37, false) }) (v := ?_) rfl (by kernel_rfl) (by kernel_rfl) (by kernel_rfl) (fun _ _ _ h => h) (Or.inl ⟨by rfl, ?_⟩) (by assumption) ?_
  rotate_left
  · intro w' hSw; (try dsimp only at hSw); first | (go_simp; done) | (go_simp; with_reducible rfl)
  (try simp only [Act.put, List.setIfInBounds_toArray, List.set_cons_zero, List.set_cons_succ])
  refine wpAnyH_take (i := 41) (oi := { dst := some 129, op := Op.pick (Operand.tmp 125) (Operand.const (Value.bool true)) (Operand.tmp 128), type := 4, pos := "laws.go:585", after := #[{ on := 37, ground := Ground.data }, { on := 40, ground := Ground.data }], guard := none }) (v := ?_) rfl (by kernel_rfl) (by kernel_rfl) (by kernel_rfl) (fun _ _ _ h => h) (Or.inl ⟨by rfl, ?_⟩) (by assumption) ?_
  rotate_left
  · intro w' hSw; (try dsimp only at hSw); first | (go_simp; done) | (go_simp; with_reducible rfl)
  (try simp only [Act.put, List.setIfInBounds_toArray, List.set_cons_zero, List.set_cons_succ])
  refine wpAnyH_take (i := 42) (oi := { dst := some 130, op := Op.move (Operand.tmp 129), type := 4, pos := "laws.go:585", after := #[{ on := 41, ground := Ground.data }, { on := 37, ground := Ground.chain }], guard := none }) (v := ?_) rfl (by kernel_rfl) (by kernel_rfl) (by kernel_rfl) (fun _ _ _ h => h) (Or.inl ⟨by rfl, ?_⟩) (by assumption) ?_
  rotate_left
  · intro w' hSw; (try dsimp only at hSw); first | (go_simp; done) | (go_simp; with_reducible rfl)
  (try simp only [Act.put, List.setIfInBounds_toArray, List.set_cons_zero, List.set_cons_succ])
  refine wpAnyH_take (i := 43) (oi := { dst := some 131, op := Op.load 28 (Operand.tmp 20), type := 28, pos := "laws.go:585", after := #[{ on := 42, ground := Ground.guard }], guard := some (42, false) }) (v := ?_) rfl (by kernel_rfl) (by kernel_rfl) (by kernel_rfl) (fun _ _ _ h => h) (Or.inl ⟨by rfl, ?_⟩) (by assumption) ?_
  rotate_left
  · intro w' hSw; (try dsimp only at hSw); first | (go_simp; done) | (go_simp; with_reducible rfl)
  (try simp only [Act.put, List.setIfInBounds_toArray, List.set_cons_zero, List.set_cons_succ])
  refine wpAnyH_take (i := 44) (oi := { dst := some 132, op := Op.load 28 (Operand.tmp 21), type := 28, pos := "laws.go:585", after := #[{ on := 42, ground := Ground.guard }], guard := some (42, false) }) (v := ?_) rfl (by kernel_rfl) (by kernel_rfl) (by kernel_rfl) (fun _ _ _ h => h) (Or.inl ⟨by rfl, ?_⟩) (by assumption) ?_
  rotate_left
  · intro w' hSw; (try dsimp only at hSw); first | (go_simp; done) | (go_simp; with_reducible rfl)
  (try simp only [Act.put, List.setIfInBounds_toArray, List.set_cons_zero, List.set_cons_succ])
  refine wpAnyH_take (i := 46) (oi := { dst := some 134, op := Op.load 28 (Operand.tmp 20), type := 28, pos := "laws.go:585", after := #[{ on := 42, ground := Ground.guard }], guard := some (42, false) }) (v := ?_) rfl (by kernel_rfl) (by kernel_rfl) (by kernel_rfl) (fun _ _ _ h => h) (Or.inl ⟨by rfl, ?_⟩) (by assumption) ?_
  rotate_left
  · intro w' hSw; (try dsimp only at hSw); first | (go_simp; done) | (go_simp; with_reducible rfl)
  (try simp only [Act.put, List.setIfInBounds_toArray, List.set_cons_zero, List.set_cons_succ])
  refine wpAnyH_take (i := 47) (oi := { dst := some 135, op := Op.load 28 (Operand.tmp 21), type := 28, pos := "laws.go:585", after := #[{ on := 42, ground := Ground.guard }], guard := some (42, false) }) (v := ?_) rfl (by kernel_rfl) (by kernel_rfl) (by kernel_rfl) (fun _ _ _ h => h) (Or.inl ⟨by rfl, ?_⟩) (by assumption) ?_
  rotate_left
  · intro w' hSw; (try dsimp only at hSw); first | (go_simp; done) | (go_simp; with_reducible rfl)
  (try simp only [Act.put, List.setIfInBounds_toArray, List.set_cons_zero, List.set_cons_succ])
  refine wpAnyH_ready (rs := [45]) (by kernel_rfl) (by simp) ?_
  refine AllReadyH.cons (o := { dst := some 133, op := Op.call { callee := Callee.value (Operand.func 25), args := #[Operand.tmp 131, Operand.tmp 132], argTypes := #[28, 28] }, type := 4, pos := "laws.go:585", after := #[{ on := 43, ground := Ground.data }, { on := 44, ground := Ground.data }, { on := 42, ground := Ground.chain }, { on := 42, ground := Ground.guard }], guard := some (42, false) }) rfl (fun K hK => ?_) AllReadyH.nil
  go_simp
  refine (iEqWV q HQQ.out Hd_a.out Hd_d.out (by omega) (by omega)).mono ?_
  rintro e wx ⟨rfl, hb⟩
  replace Hd_w := Lib.hid (Hd_w.out.on hb)
  replace Hd_x := Lib.hid (Hd_x.out.on hb)
  replace Hd_y := Lib.hid (Hd_y.out.on hb)
  replace Hd_n := Lib.hid (Hd_n.out.on hb)
  replace Hd_m := Lib.hid (Hd_m.out.on hb)
  replace Hd_k := Lib.hid (Hd_k.out.on hb)
  replace Hd_a := Lib.hid (Hd_a.out.on hb)
  replace Hd_d := Lib.hid (Hd_d.out.on hb)
  replace Hd_o := Lib.hid (Hd_o.out.on hb)
  replace Hd_u := Lib.hid (Hd_u.out.on hb)
  replace Hd_b := Lib.hid (Hd_b.out.on hb)
  replace Hd_p := Lib.hid (Hd_p.out.on hb)
  replace Hd_t := Lib.hid (Hd_t.out.on hb)
  replace K0_w := Lib.hid ((hb.cell (cell_lt K0_w.out)).trans K0_w.out)
  replace K1_w := Lib.hid ((hb.cell (cell_lt K1_w.out)).trans K1_w.out)
  replace K2_w := Lib.hid ((hb.cell (cell_lt K2_w.out)).trans K2_w.out)
  replace K3_w := Lib.hid ((hb.cell (cell_lt K3_w.out)).trans K3_w.out)
  replace K0_x := Lib.hid ((hb.cell (cell_lt K0_x.out)).trans K0_x.out)
  replace K1_x := Lib.hid ((hb.cell (cell_lt K1_x.out)).trans K1_x.out)
  replace K2_x := Lib.hid ((hb.cell (cell_lt K2_x.out)).trans K2_x.out)
  replace K3_x := Lib.hid ((hb.cell (cell_lt K3_x.out)).trans K3_x.out)
  replace K0_y := Lib.hid ((hb.cell (cell_lt K0_y.out)).trans K0_y.out)
  replace K1_y := Lib.hid ((hb.cell (cell_lt K1_y.out)).trans K1_y.out)
  replace K2_y := Lib.hid ((hb.cell (cell_lt K2_y.out)).trans K2_y.out)
  replace K3_y := Lib.hid ((hb.cell (cell_lt K3_y.out)).trans K3_y.out)
  replace K0_n := Lib.hid ((hb.cell (cell_lt K0_n.out)).trans K0_n.out)
  replace K0_m := Lib.hid ((hb.cell (cell_lt K0_m.out)).trans K0_m.out)
  replace K0_k := Lib.hid ((hb.cell (cell_lt K0_k.out)).trans K0_k.out)
  replace K0_a := Lib.hid ((hb.cell (cell_lt K0_a.out)).trans K0_a.out)
  replace K1_a := Lib.hid ((hb.cell (cell_lt K1_a.out)).trans K1_a.out)
  replace K2_a := Lib.hid ((hb.cell (cell_lt K2_a.out)).trans K2_a.out)
  replace K3_a := Lib.hid ((hb.cell (cell_lt K3_a.out)).trans K3_a.out)
  replace K0_d := Lib.hid ((hb.cell (cell_lt K0_d.out)).trans K0_d.out)
  replace K1_d := Lib.hid ((hb.cell (cell_lt K1_d.out)).trans K1_d.out)
  replace K2_d := Lib.hid ((hb.cell (cell_lt K2_d.out)).trans K2_d.out)
  replace K3_d := Lib.hid ((hb.cell (cell_lt K3_d.out)).trans K3_d.out)
  replace K0_o := Lib.hid ((hb.cell (cell_lt K0_o.out)).trans K0_o.out)
  replace K1_o := Lib.hid ((hb.cell (cell_lt K1_o.out)).trans K1_o.out)
  replace K2_o := Lib.hid ((hb.cell (cell_lt K2_o.out)).trans K2_o.out)
  replace K3_o := Lib.hid ((hb.cell (cell_lt K3_o.out)).trans K3_o.out)
  replace K0_u := Lib.hid ((hb.cell (cell_lt K0_u.out)).trans K0_u.out)
  replace K1_u := Lib.hid ((hb.cell (cell_lt K1_u.out)).trans K1_u.out)
  replace K2_u := Lib.hid ((hb.cell (cell_lt K2_u.out)).trans K2_u.out)
  replace K3_u := Lib.hid ((hb.cell (cell_lt K3_u.out)).trans K3_u.out)
  replace BB := Lib.hid (BB.out.trans (hb.mono BB.out.size)); clear hb
  (try go_wp2_with fail)
  clear hHeld
  refine hK.out _ _ ?_ (fun hHeld => ?_)
  · (try dsimp only); exact ⟨K0_w.out, K1_w.out, K2_w.out, K3_w.out, K0_x.out, K1_x.out, K2_x.out, K3_x.out, K0_y.out, K1_y.out, K2_y.out, K3_y.out, K0_n.out, K0_m.out, K0_k.out, K0_a.out, K1_a.out, K2_a.out, K3_a.out, K0_d.out, K1_d.out, K2_d.out, K3_d.out, K0_o.out, K1_o.out, K2_o.out, K3_o.out, K0_u.out, K1_u.out, K2_u.out, K3_u.out⟩
  clear hK K
  (try simp only [Act.put, List.setIfInBounds_toArray, List.set_cons_zero, List.set_cons_succ])
  refine wpAnyH_ready (rs := [48]) (by kernel_rfl) (by simp) ?_
  refine AllReadyH.cons (o := { dst := some 136, op := Op.call { callee := Callee.value (Operand.func 21), args := #[Operand.tmp 134, Operand.tmp 135], argTypes := #[28, 28] }, type := 4, pos := "laws.go:585", after := #[{ on := 46, ground := Ground.data }, { on := 47, ground := Ground.data }, { on := 45, ground := Ground.chain }, { on := 42, ground := Ground.guard }], guard := some (42, false) }) rfl (fun K hK => ?_) AllReadyH.nil
  go_simp
  refine (sameWV q HQQ.out Hd_a.out Hd_d.out (by omega) (by omega)).mono ?_
  rintro e wx ⟨rfl, hb⟩
  replace Hd_w := Lib.hid (Hd_w.out.on hb)
  replace Hd_x := Lib.hid (Hd_x.out.on hb)
  replace Hd_y := Lib.hid (Hd_y.out.on hb)
  replace Hd_n := Lib.hid (Hd_n.out.on hb)
  replace Hd_m := Lib.hid (Hd_m.out.on hb)
  replace Hd_k := Lib.hid (Hd_k.out.on hb)
  replace Hd_a := Lib.hid (Hd_a.out.on hb)
  replace Hd_d := Lib.hid (Hd_d.out.on hb)
  replace Hd_o := Lib.hid (Hd_o.out.on hb)
  replace Hd_u := Lib.hid (Hd_u.out.on hb)
  replace Hd_b := Lib.hid (Hd_b.out.on hb)
  replace Hd_p := Lib.hid (Hd_p.out.on hb)
  replace Hd_t := Lib.hid (Hd_t.out.on hb)
  replace K0_w := Lib.hid ((hb.cell (cell_lt K0_w.out)).trans K0_w.out)
  replace K1_w := Lib.hid ((hb.cell (cell_lt K1_w.out)).trans K1_w.out)
  replace K2_w := Lib.hid ((hb.cell (cell_lt K2_w.out)).trans K2_w.out)
  replace K3_w := Lib.hid ((hb.cell (cell_lt K3_w.out)).trans K3_w.out)
  replace K0_x := Lib.hid ((hb.cell (cell_lt K0_x.out)).trans K0_x.out)
  replace K1_x := Lib.hid ((hb.cell (cell_lt K1_x.out)).trans K1_x.out)
  replace K2_x := Lib.hid ((hb.cell (cell_lt K2_x.out)).trans K2_x.out)
  replace K3_x := Lib.hid ((hb.cell (cell_lt K3_x.out)).trans K3_x.out)
  replace K0_y := Lib.hid ((hb.cell (cell_lt K0_y.out)).trans K0_y.out)
  replace K1_y := Lib.hid ((hb.cell (cell_lt K1_y.out)).trans K1_y.out)
  replace K2_y := Lib.hid ((hb.cell (cell_lt K2_y.out)).trans K2_y.out)
  replace K3_y := Lib.hid ((hb.cell (cell_lt K3_y.out)).trans K3_y.out)
  replace K0_n := Lib.hid ((hb.cell (cell_lt K0_n.out)).trans K0_n.out)
  replace K0_m := Lib.hid ((hb.cell (cell_lt K0_m.out)).trans K0_m.out)
  replace K0_k := Lib.hid ((hb.cell (cell_lt K0_k.out)).trans K0_k.out)
  replace K0_a := Lib.hid ((hb.cell (cell_lt K0_a.out)).trans K0_a.out)
  replace K1_a := Lib.hid ((hb.cell (cell_lt K1_a.out)).trans K1_a.out)
  replace K2_a := Lib.hid ((hb.cell (cell_lt K2_a.out)).trans K2_a.out)
  replace K3_a := Lib.hid ((hb.cell (cell_lt K3_a.out)).trans K3_a.out)
  replace K0_d := Lib.hid ((hb.cell (cell_lt K0_d.out)).trans K0_d.out)
  replace K1_d := Lib.hid ((hb.cell (cell_lt K1_d.out)).trans K1_d.out)
  replace K2_d := Lib.hid ((hb.cell (cell_lt K2_d.out)).trans K2_d.out)
  replace K3_d := Lib.hid ((hb.cell (cell_lt K3_d.out)).trans K3_d.out)
  replace K0_o := Lib.hid ((hb.cell (cell_lt K0_o.out)).trans K0_o.out)
  replace K1_o := Lib.hid ((hb.cell (cell_lt K1_o.out)).trans K1_o.out)
  replace K2_o := Lib.hid ((hb.cell (cell_lt K2_o.out)).trans K2_o.out)
  replace K3_o := Lib.hid ((hb.cell (cell_lt K3_o.out)).trans K3_o.out)
  replace K0_u := Lib.hid ((hb.cell (cell_lt K0_u.out)).trans K0_u.out)
  replace K1_u := Lib.hid ((hb.cell (cell_lt K1_u.out)).trans K1_u.out)
  replace K2_u := Lib.hid ((hb.cell (cell_lt K2_u.out)).trans K2_u.out)
  replace K3_u := Lib.hid ((hb.cell (cell_lt K3_u.out)).trans K3_u.out)
  replace BB := Lib.hid (BB.out.trans (hb.mono BB.out.size)); clear hb
  (try go_wp2_with fail)
  clear hHeld
  refine hK.out _ _ ?_ (fun hHeld => ?_)
  · (try dsimp only); exact ⟨K0_w.out, K1_w.out, K2_w.out, K3_w.out, K0_x.out, K1_x.out, K2_x.out, K3_x.out, K0_y.out, K1_y.out, K2_y.out, K3_y.out, K0_n.out, K0_m.out, K0_k.out, K0_a.out, K1_a.out, K2_a.out, K3_a.out, K0_d.out, K1_d.out, K2_d.out, K3_d.out, K0_o.out, K1_o.out, K2_o.out, K3_o.out, K0_u.out, K1_u.out, K2_u.out, K3_u.out⟩
  clear hK K
  (try simp only [Act.put, List.setIfInBounds_toArray, List.set_cons_zero, List.set_cons_succ])
  refine wpAnyH_take (i := 49) (oi := { dst := some 137, op := Op.binOp BinOp.neq 4 (Operand.tmp 133) (Operand.tmp 136) 4, type := 4, pos := "laws.go:585", after := #[{ on := 45, ground := Ground.data }, { on := 48, ground := Ground.data }, { on := 42, ground := Ground.guard }], guard := some (42, false) }) (v := ?_) rfl (by kernel_rfl) (by kernel_rfl) (by kernel_rfl) (fun _ _ _ h => h) (Or.inl ⟨by rfl, ?_⟩) (by assumption) ?_
  rotate_left
  · intro w' hSw; (try dsimp only at hSw); first | (go_simp; done) | (go_simp; with_reducible rfl)
  (try simp only [Act.put, List.setIfInBounds_toArray, List.set_cons_zero, List.set_cons_succ])
  refine wpAnyH_take (i := 50) (oi := { dst := some 138, op := Op.pick (Operand.tmp 130) (Operand.const (Value.bool true)) (Operand.tmp 137), type := 4, pos := "laws.go:585", after := #[{ on := 42, ground := Ground.data }, { on := 49, ground := Ground.data }], guard := none }) (v := ?_) rfl (by kernel_rfl) (by kernel_rfl) (by kernel_rfl) (fun _ _ _ h => h) (Or.inl ⟨by rfl, ?_⟩) (by assumption) ?_
  rotate_left
  · intro w' hSw; (try dsimp only at hSw); first | (go_simp; done) | (go_simp; with_reducible rfl)
  (try simp only [Act.put, List.setIfInBounds_toArray, List.set_cons_zero, List.set_cons_succ])
  refine wpAnyH_take (i := 51) (oi := { dst := some 139, op := Op.move (Operand.tmp 138), type := 4, pos := "laws.go:585", after := #[{ on := 50, ground := Ground.data }, { on := 48, ground := Ground.chain }], guard := none }) (v := ?_) rfl (by kernel_rfl) (by kernel_rfl) (by kernel_rfl) (fun _ _ _ h => h) (Or.inl ⟨by rfl, ?_⟩) (by assumption) ?_
  rotate_left
  · intro w' hSw; (try dsimp only at hSw); first | (go_simp; done) | (go_simp; with_reducible rfl)
  (try simp only [Act.put, List.setIfInBounds_toArray, List.set_cons_zero, List.set_cons_succ])
  refine wpAnyH_take (i := 52) (oi := { dst := some 140, op := Op.load 28 (Operand.tmp 23), type := 28, pos := "laws.go:585", after := #[{ on := 51, ground := Ground.guard }], guard := some (51, false) }) (v := ?_) rfl (by kernel_rfl) (by kernel_rfl) (by kernel_rfl) (fun _ _ _ h => h) (Or.inl ⟨by rfl, ?_⟩) (by assumption) ?_
  rotate_left
  · intro w' hSw; (try dsimp only at hSw); first | (go_simp; done) | (go_simp; with_reducible rfl)
  (try simp only [Act.put, List.setIfInBounds_toArray, List.set_cons_zero, List.set_cons_succ])
  refine wpAnyH_take (i := 53) (oi := { dst := some 141, op := Op.load 28 (Operand.tmp 25), type := 28, pos := "laws.go:585", after := #[{ on := 51, ground := Ground.guard }], guard := some (51, false) }) (v := ?_) rfl (by kernel_rfl) (by kernel_rfl) (by kernel_rfl) (fun _ _ _ h => h) (Or.inl ⟨by rfl, ?_⟩) (by assumption) ?_
  rotate_left
  · intro w' hSw; (try dsimp only at hSw); first | (go_simp; done) | (go_simp; with_reducible rfl)
  (try simp only [Act.put, List.setIfInBounds_toArray, List.set_cons_zero, List.set_cons_succ])
  refine wpAnyH_ready (rs := [54]) (by kernel_rfl) (by simp) ?_
  refine AllReadyH.cons (o := { dst := some 142, op := Op.call { callee := Callee.value (Operand.func 21), args := #[Operand.tmp 140, Operand.tmp 141], argTypes := #[28, 28] }, type := 4, pos := "laws.go:585", after := #[{ on := 52, ground := Ground.data }, { on := 53, ground := Ground.data }, { on := 51, ground := Ground.chain }, { on := 51, ground := Ground.guard }], guard := some (51, false) }) rfl (fun K hK => ?_) AllReadyH.nil
  go_simp
  refine (sameWV true (eqW_self xo) Hd_o.out Hd_u.out (by omega) (by omega)).mono ?_
  rintro e wx ⟨rfl, hb⟩
  replace Hd_w := Lib.hid (Hd_w.out.on hb)
  replace Hd_x := Lib.hid (Hd_x.out.on hb)
  replace Hd_y := Lib.hid (Hd_y.out.on hb)
  replace Hd_n := Lib.hid (Hd_n.out.on hb)
  replace Hd_m := Lib.hid (Hd_m.out.on hb)
  replace Hd_k := Lib.hid (Hd_k.out.on hb)
  replace Hd_a := Lib.hid (Hd_a.out.on hb)
  replace Hd_d := Lib.hid (Hd_d.out.on hb)
  replace Hd_o := Lib.hid (Hd_o.out.on hb)
  replace Hd_u := Lib.hid (Hd_u.out.on hb)
  replace Hd_b := Lib.hid (Hd_b.out.on hb)
  replace Hd_p := Lib.hid (Hd_p.out.on hb)
  replace Hd_t := Lib.hid (Hd_t.out.on hb)
  replace K0_w := Lib.hid ((hb.cell (cell_lt K0_w.out)).trans K0_w.out)
  replace K1_w := Lib.hid ((hb.cell (cell_lt K1_w.out)).trans K1_w.out)
  replace K2_w := Lib.hid ((hb.cell (cell_lt K2_w.out)).trans K2_w.out)
  replace K3_w := Lib.hid ((hb.cell (cell_lt K3_w.out)).trans K3_w.out)
  replace K0_x := Lib.hid ((hb.cell (cell_lt K0_x.out)).trans K0_x.out)
  replace K1_x := Lib.hid ((hb.cell (cell_lt K1_x.out)).trans K1_x.out)
  replace K2_x := Lib.hid ((hb.cell (cell_lt K2_x.out)).trans K2_x.out)
  replace K3_x := Lib.hid ((hb.cell (cell_lt K3_x.out)).trans K3_x.out)
  replace K0_y := Lib.hid ((hb.cell (cell_lt K0_y.out)).trans K0_y.out)
  replace K1_y := Lib.hid ((hb.cell (cell_lt K1_y.out)).trans K1_y.out)
  replace K2_y := Lib.hid ((hb.cell (cell_lt K2_y.out)).trans K2_y.out)
  replace K3_y := Lib.hid ((hb.cell (cell_lt K3_y.out)).trans K3_y.out)
  replace K0_n := Lib.hid ((hb.cell (cell_lt K0_n.out)).trans K0_n.out)
  replace K0_m := Lib.hid ((hb.cell (cell_lt K0_m.out)).trans K0_m.out)
  replace K0_k := Lib.hid ((hb.cell (cell_lt K0_k.out)).trans K0_k.out)
  replace K0_a := Lib.hid ((hb.cell (cell_lt K0_a.out)).trans K0_a.out)
  replace K1_a := Lib.hid ((hb.cell (cell_lt K1_a.out)).trans K1_a.out)
  replace K2_a := Lib.hid ((hb.cell (cell_lt K2_a.out)).trans K2_a.out)
  replace K3_a := Lib.hid ((hb.cell (cell_lt K3_a.out)).trans K3_a.out)
  replace K0_d := Lib.hid ((hb.cell (cell_lt K0_d.out)).trans K0_d.out)
  replace K1_d := Lib.hid ((hb.cell (cell_lt K1_d.out)).trans K1_d.out)
  replace K2_d := Lib.hid ((hb.cell (cell_lt K2_d.out)).trans K2_d.out)
  replace K3_d := Lib.hid ((hb.cell (cell_lt K3_d.out)).trans K3_d.out)
  replace K0_o := Lib.hid ((hb.cell (cell_lt K0_o.out)).trans K0_o.out)
  replace K1_o := Lib.hid ((hb.cell (cell_lt K1_o.out)).trans K1_o.out)
  replace K2_o := Lib.hid ((hb.cell (cell_lt K2_o.out)).trans K2_o.out)
  replace K3_o := Lib.hid ((hb.cell (cell_lt K3_o.out)).trans K3_o.out)
  replace K0_u := Lib.hid ((hb.cell (cell_lt K0_u.out)).trans K0_u.out)
  replace K1_u := Lib.hid ((hb.cell (cell_lt K1_u.out)).trans K1_u.out)
  replace K2_u := Lib.hid ((hb.cell (cell_lt K2_u.out)).trans K2_u.out)
  replace K3_u := Lib.hid ((hb.cell (cell_lt K3_u.out)).trans K3_u.out)
  replace BB := Lib.hid (BB.out.trans (hb.mono BB.out.size)); clear hb
  (try go_wp2_with fail)
  clear hHeld
  refine hK.out _ _ ?_ (fun hHeld => ?_)
  · (try dsimp only); exact ⟨K0_w.out, K1_w.out, K2_w.out, K3_w.out, K0_x.out, K1_x.out, K2_x.out, K3_x.out, K0_y.out, K1_y.out, K2_y.out, K3_y.out, K0_n.out, K0_m.out, K0_k.out, K0_a.out, K1_a.out, K2_a.out, K3_a.out, K0_d.out, K1_d.out, K2_d.out, K3_d.out, K0_o.out, K1_o.out, K2_o.out, K3_o.out, K0_u.out, K1_u.out, K2_u.out, K3_u.out⟩
  clear hK K
  (try simp only [Act.put, List.setIfInBounds_toArray, List.set_cons_zero, List.set_cons_succ])
  refine wpAnyH_take (i := 55) (oi := { dst := some 143, op := Op.unOp UnOp.not 4 (Operand.tmp 142), type := 4, pos := "laws.go:585", after := #[{ on := 54, ground := Ground.data }, { on := 51, ground := Ground.guard }], guard := some (51, false) }) (v := ?_) rfl (by kernel_rfl) (by kernel_rfl) (by kernel_rfl) (fun _ _ _ h => h) (Or.inl ⟨by rfl, ?_⟩) (by assumption) ?_
  rotate_left
  · intro w' hSw; (try dsimp only at hSw); first | (go_simp; done) | (go_simp; with_reducible rfl)
  (try simp only [Act.put, List.setIfInBounds_toArray, List.set_cons_zero, List.set_cons_succ])
  refine wpAnyH_take (i := 56) (oi := { dst := some 144, op := Op.pick (Operand.tmp 139) (Operand.const (Value.bool true)) (Operand.tmp 143), type := 4, pos := "laws.go:585", after := #[{ on := 51, ground := Ground.data }, { on := 55, ground := Ground.data }], guard := none }) (v := ?_) rfl (by kernel_rfl) (by kernel_rfl) (by kernel_rfl) (fun _ _ _ h => h) (Or.inl ⟨by rfl, ?_⟩) (by assumption) ?_
  rotate_left
  · intro w' hSw; (try dsimp only at hSw); first | (go_simp; done) | (go_simp; with_reducible rfl)
  (try simp only [Act.put, List.setIfInBounds_toArray, List.set_cons_zero, List.set_cons_succ])
  refine wpAnyH_take (i := 57) (oi := { dst := some 145, op := Op.move (Operand.tmp 144), type := 4, pos := "laws.go:585", after := #[{ on := 56, ground := Ground.data }, { on := 54, ground := Ground.chain }], guard := none }) (v := ?_) rfl (by kernel_rfl) (by kernel_rfl) (by kernel_rfl) (fun _ _ _ h => h) (Or.inl ⟨by rfl, ?_⟩) (by assumption) ?_
  rotate_left
  · intro w' hSw; (try dsimp only at hSw); first | (go_simp; done) | (go_simp; with_reducible rfl)
  (try simp only [Act.put, List.setIfInBounds_toArray, List.set_cons_zero, List.set_cons_succ])
  refine wpAnyH_take (i := 58) (oi := { dst := some 146, op := Op.move (Operand.tmp 24), type := 4, pos := "laws.go:585", after := #[{ on := 57, ground := Ground.guard }], guard := some (57, false) }) (v := ?_) rfl (by kernel_rfl) (by kernel_rfl) (by kernel_rfl) (fun _ _ _ h => h) (Or.inl ⟨by rfl, ?_⟩) (by assumption) ?_
  rotate_left
  · intro w' hSw; (try dsimp only at hSw); first | (go_simp; done) | (go_simp; with_reducible rfl)
  (try simp only [Act.put, List.setIfInBounds_toArray, List.set_cons_zero, List.set_cons_succ])
  refine wpAnyH_take (i := 59) (oi := { dst := some 147, op := Op.move (Operand.tmp 26), type := 4, pos := "laws.go:585", after := #[{ on := 57, ground := Ground.guard }], guard := some (57, false) }) (v := ?_) rfl (by kernel_rfl) (by kernel_rfl) (by kernel_rfl) (fun _ _ _ h => h) (Or.inl ⟨by rfl, ?_⟩) (by assumption) ?_
  rotate_left
  · intro w' hSw; (try dsimp only at hSw); first | (go_simp; done) | (go_simp; with_reducible rfl)
  (try simp only [Act.put, List.setIfInBounds_toArray, List.set_cons_zero, List.set_cons_succ])
  refine wpAnyH_take (i := 60) (oi := { dst := some 148, op := Op.binOp BinOp.neq 4 (Operand.tmp 146) (Operand.tmp 147) 4, type := 4, pos := "laws.go:585", after := #[{ on := 58, ground := Ground.data }, { on := 59, ground := Ground.data }, { on := 57, ground := Ground.guard }], guard := some (57, false) }) (v := ?_) rfl (by kernel_rfl) (by kernel_rfl) (by kernel_rfl) (fun _ _ _ h => h) (Or.inl ⟨by rfl, ?_⟩) (by assumption) ?_
  rotate_left
  · intro w' hSw; (try dsimp only at hSw); first | (go_simp; done) | (go_simp; with_reducible rfl)
  (try simp only [Act.put, List.setIfInBounds_toArray, List.set_cons_zero, List.set_cons_succ])
  refine wpAnyH_take (i := 61) (oi := { dst := some 149, op := Op.pick (Operand.tmp 145) (Operand.const (Value.bool true)) (Operand.tmp 148), type := 4, pos := "laws.go:585", after := #[{ on := 57, ground := Ground.data }, { on := 60, ground := Ground.data }], guard := none }) (v := ?_) rfl (by kernel_rfl) (by kernel_rfl) (by kernel_rfl) (fun _ _ _ h => h) (Or.inl ⟨by rfl, ?_⟩) (by assumption) ?_
  rotate_left
  · intro w' hSw; (try dsimp only at hSw); first | (go_simp; done) | (go_simp; with_reducible rfl)
  (try simp only [Act.put, List.setIfInBounds_toArray, List.set_cons_zero, List.set_cons_succ])
  refine wpAnyH_take (i := 62) (oi := { dst := some 150, op := Op.move (Operand.tmp 149), type := 4, pos := "laws.go:585", after := #[{ on := 61, ground := Ground.data }, { on := 57, ground := Ground.chain }], guard := none }) (v := ?_) rfl (by kernel_rfl) (by kernel_rfl) (by kernel_rfl) (fun _ _ _ h => h) (Or.inl ⟨by rfl, ?_⟩) (by assumption) ?_
  rotate_left
  · intro w' hSw; (try dsimp only at hSw); first | (go_simp; done) | (go_simp; with_reducible rfl)
  (try simp only [Act.put, List.setIfInBounds_toArray, List.set_cons_zero, List.set_cons_succ])
  refine wpAnyH_take (i := 63) (oi := { dst := some 151, op := Op.load 28 (Operand.tmp 3), type := 28, pos := "laws.go:585", after := #[{ on := 62, ground := Ground.guard }], guard := some (62, false) }) (v := ?_) rfl (by kernel_rfl) (by kernel_rfl) (by kernel_rfl) (fun _ _ _ h => h) (Or.inl ⟨by rfl, ?_⟩) (by assumption) ?_
  rotate_left
  · intro w' hSw; (try dsimp only at hSw); first | (go_simp; done) | (go_simp; with_reducible rfl)
  (try simp only [Act.put, List.setIfInBounds_toArray, List.set_cons_zero, List.set_cons_succ])
  refine wpAnyH_take (i := 65) (oi := { dst := some 153, op := Op.load 28 (Operand.tmp 3), type := 28, pos := "laws.go:585", after := #[{ on := 62, ground := Ground.guard }], guard := some (62, false) }) (v := ?_) rfl (by kernel_rfl) (by kernel_rfl) (by kernel_rfl) (fun _ _ _ h => h) (Or.inl ⟨by rfl, ?_⟩) (by assumption) ?_
  rotate_left
  · intro w' hSw; (try dsimp only at hSw); first | (go_simp; done) | (go_simp; with_reducible rfl)
  (try simp only [Act.put, List.setIfInBounds_toArray, List.set_cons_zero, List.set_cons_succ])
  refine wpAnyH_ready (rs := [64]) (by kernel_rfl) (by simp) ?_
  refine AllReadyH.cons (o := { dst := some 152, op := Op.call { callee := Callee.value (Operand.func 26), args := #[Operand.tmp 151], argTypes := #[28] }, type := 9, pos := "laws.go:585", after := #[{ on := 63, ground := Ground.data }, { on := 62, ground := Ground.chain }, { on := 62, ground := Ground.guard }], guard := some (62, false) }) rfl (fun K hK => ?_) AllReadyH.nil
  go_simp
  refine (iFmtWV fs HFS.out Hd_w.out (by omega) HWF.out Hd_t.out).mono ?_
  rintro e wx ⟨rfl, hb⟩
  replace Hd_w := Lib.hid (Hd_w.out.on hb)
  replace Hd_x := Lib.hid (Hd_x.out.on hb)
  replace Hd_y := Lib.hid (Hd_y.out.on hb)
  replace Hd_n := Lib.hid (Hd_n.out.on hb)
  replace Hd_m := Lib.hid (Hd_m.out.on hb)
  replace Hd_k := Lib.hid (Hd_k.out.on hb)
  replace Hd_a := Lib.hid (Hd_a.out.on hb)
  replace Hd_d := Lib.hid (Hd_d.out.on hb)
  replace Hd_o := Lib.hid (Hd_o.out.on hb)
  replace Hd_u := Lib.hid (Hd_u.out.on hb)
  replace Hd_b := Lib.hid (Hd_b.out.on hb)
  replace Hd_p := Lib.hid (Hd_p.out.on hb)
  replace Hd_t := Lib.hid (Hd_t.out.on hb)
  replace K0_w := Lib.hid ((hb.cell (cell_lt K0_w.out)).trans K0_w.out)
  replace K1_w := Lib.hid ((hb.cell (cell_lt K1_w.out)).trans K1_w.out)
  replace K2_w := Lib.hid ((hb.cell (cell_lt K2_w.out)).trans K2_w.out)
  replace K3_w := Lib.hid ((hb.cell (cell_lt K3_w.out)).trans K3_w.out)
  replace K0_x := Lib.hid ((hb.cell (cell_lt K0_x.out)).trans K0_x.out)
  replace K1_x := Lib.hid ((hb.cell (cell_lt K1_x.out)).trans K1_x.out)
  replace K2_x := Lib.hid ((hb.cell (cell_lt K2_x.out)).trans K2_x.out)
  replace K3_x := Lib.hid ((hb.cell (cell_lt K3_x.out)).trans K3_x.out)
  replace K0_y := Lib.hid ((hb.cell (cell_lt K0_y.out)).trans K0_y.out)
  replace K1_y := Lib.hid ((hb.cell (cell_lt K1_y.out)).trans K1_y.out)
  replace K2_y := Lib.hid ((hb.cell (cell_lt K2_y.out)).trans K2_y.out)
  replace K3_y := Lib.hid ((hb.cell (cell_lt K3_y.out)).trans K3_y.out)
  replace K0_n := Lib.hid ((hb.cell (cell_lt K0_n.out)).trans K0_n.out)
  replace K0_m := Lib.hid ((hb.cell (cell_lt K0_m.out)).trans K0_m.out)
  replace K0_k := Lib.hid ((hb.cell (cell_lt K0_k.out)).trans K0_k.out)
  replace K0_a := Lib.hid ((hb.cell (cell_lt K0_a.out)).trans K0_a.out)
  replace K1_a := Lib.hid ((hb.cell (cell_lt K1_a.out)).trans K1_a.out)
  replace K2_a := Lib.hid ((hb.cell (cell_lt K2_a.out)).trans K2_a.out)
  replace K3_a := Lib.hid ((hb.cell (cell_lt K3_a.out)).trans K3_a.out)
  replace K0_d := Lib.hid ((hb.cell (cell_lt K0_d.out)).trans K0_d.out)
  replace K1_d := Lib.hid ((hb.cell (cell_lt K1_d.out)).trans K1_d.out)
  replace K2_d := Lib.hid ((hb.cell (cell_lt K2_d.out)).trans K2_d.out)
  replace K3_d := Lib.hid ((hb.cell (cell_lt K3_d.out)).trans K3_d.out)
  replace K0_o := Lib.hid ((hb.cell (cell_lt K0_o.out)).trans K0_o.out)
  replace K1_o := Lib.hid ((hb.cell (cell_lt K1_o.out)).trans K1_o.out)
  replace K2_o := Lib.hid ((hb.cell (cell_lt K2_o.out)).trans K2_o.out)
  replace K3_o := Lib.hid ((hb.cell (cell_lt K3_o.out)).trans K3_o.out)
  replace K0_u := Lib.hid ((hb.cell (cell_lt K0_u.out)).trans K0_u.out)
  replace K1_u := Lib.hid ((hb.cell (cell_lt K1_u.out)).trans K1_u.out)
  replace K2_u := Lib.hid ((hb.cell (cell_lt K2_u.out)).trans K2_u.out)
  replace K3_u := Lib.hid ((hb.cell (cell_lt K3_u.out)).trans K3_u.out)
  replace BB := Lib.hid (BB.out.trans (hb.mono BB.out.size)); clear hb
  (try go_wp2_with fail)
  clear hHeld
  refine hK.out _ _ ?_ (fun hHeld => ?_)
  · (try dsimp only); exact ⟨K0_w.out, K1_w.out, K2_w.out, K3_w.out, K0_x.out, K1_x.out, K2_x.out, K3_x.out, K0_y.out, K1_y.out, K2_y.out, K3_y.out, K0_n.out, K0_m.out, K0_k.out, K0_a.out, K1_a.out, K2_a.out, K3_a.out, K0_d.out, K1_d.out, K2_d.out, K3_d.out, K0_o.out, K1_o.out, K2_o.out, K3_o.out, K0_u.out, K1_u.out, K2_u.out, K3_u.out⟩
  clear hK K
  (try simp only [Act.put, List.setIfInBounds_toArray, List.set_cons_zero, List.set_cons_succ])
  refine wpAnyH_ready (rs := [66]) (by kernel_rfl) (by simp) ?_
  refine AllReadyH.cons (o := { dst := some 154, op := Op.call { callee := Callee.value (Operand.func 27), args := #[Operand.tmp 153], argTypes := #[28] }, type := 9, pos := "laws.go:585", after := #[{ on := 65, ground := Ground.data }, { on := 64, ground := Ground.chain }, { on := 62, ground := Ground.guard }], guard := some (62, false) }) rfl (fun K hK => ?_) AllReadyH.nil
  go_simp
  refine (sFmtWV fs HFS.out Hd_w.out (by omega) HWF.out).mono ?_
  rintro e wx ⟨rfl, hb⟩
  replace Hd_w := Lib.hid (Hd_w.out.on hb)
  replace Hd_x := Lib.hid (Hd_x.out.on hb)
  replace Hd_y := Lib.hid (Hd_y.out.on hb)
  replace Hd_n := Lib.hid (Hd_n.out.on hb)
  replace Hd_m := Lib.hid (Hd_m.out.on hb)
  replace Hd_k := Lib.hid (Hd_k.out.on hb)
  replace Hd_a := Lib.hid (Hd_a.out.on hb)
  replace Hd_d := Lib.hid (Hd_d.out.on hb)
  replace Hd_o := Lib.hid (Hd_o.out.on hb)
  replace Hd_u := Lib.hid (Hd_u.out.on hb)
  replace Hd_b := Lib.hid (Hd_b.out.on hb)
  replace Hd_p := Lib.hid (Hd_p.out.on hb)
  replace Hd_t := Lib.hid (Hd_t.out.on hb)
  replace K0_w := Lib.hid ((hb.cell (cell_lt K0_w.out)).trans K0_w.out)
  replace K1_w := Lib.hid ((hb.cell (cell_lt K1_w.out)).trans K1_w.out)
  replace K2_w := Lib.hid ((hb.cell (cell_lt K2_w.out)).trans K2_w.out)
  replace K3_w := Lib.hid ((hb.cell (cell_lt K3_w.out)).trans K3_w.out)
  replace K0_x := Lib.hid ((hb.cell (cell_lt K0_x.out)).trans K0_x.out)
  replace K1_x := Lib.hid ((hb.cell (cell_lt K1_x.out)).trans K1_x.out)
  replace K2_x := Lib.hid ((hb.cell (cell_lt K2_x.out)).trans K2_x.out)
  replace K3_x := Lib.hid ((hb.cell (cell_lt K3_x.out)).trans K3_x.out)
  replace K0_y := Lib.hid ((hb.cell (cell_lt K0_y.out)).trans K0_y.out)
  replace K1_y := Lib.hid ((hb.cell (cell_lt K1_y.out)).trans K1_y.out)
  replace K2_y := Lib.hid ((hb.cell (cell_lt K2_y.out)).trans K2_y.out)
  replace K3_y := Lib.hid ((hb.cell (cell_lt K3_y.out)).trans K3_y.out)
  replace K0_n := Lib.hid ((hb.cell (cell_lt K0_n.out)).trans K0_n.out)
  replace K0_m := Lib.hid ((hb.cell (cell_lt K0_m.out)).trans K0_m.out)
  replace K0_k := Lib.hid ((hb.cell (cell_lt K0_k.out)).trans K0_k.out)
  replace K0_a := Lib.hid ((hb.cell (cell_lt K0_a.out)).trans K0_a.out)
  replace K1_a := Lib.hid ((hb.cell (cell_lt K1_a.out)).trans K1_a.out)
  replace K2_a := Lib.hid ((hb.cell (cell_lt K2_a.out)).trans K2_a.out)
  replace K3_a := Lib.hid ((hb.cell (cell_lt K3_a.out)).trans K3_a.out)
  replace K0_d := Lib.hid ((hb.cell (cell_lt K0_d.out)).trans K0_d.out)
  replace K1_d := Lib.hid ((hb.cell (cell_lt K1_d.out)).trans K1_d.out)
  replace K2_d := Lib.hid ((hb.cell (cell_lt K2_d.out)).trans K2_d.out)
  replace K3_d := Lib.hid ((hb.cell (cell_lt K3_d.out)).trans K3_d.out)
  replace K0_o := Lib.hid ((hb.cell (cell_lt K0_o.out)).trans K0_o.out)
  replace K1_o := Lib.hid ((hb.cell (cell_lt K1_o.out)).trans K1_o.out)
  replace K2_o := Lib.hid ((hb.cell (cell_lt K2_o.out)).trans K2_o.out)
  replace K3_o := Lib.hid ((hb.cell (cell_lt K3_o.out)).trans K3_o.out)
  replace K0_u := Lib.hid ((hb.cell (cell_lt K0_u.out)).trans K0_u.out)
  replace K1_u := Lib.hid ((hb.cell (cell_lt K1_u.out)).trans K1_u.out)
  replace K2_u := Lib.hid ((hb.cell (cell_lt K2_u.out)).trans K2_u.out)
  replace K3_u := Lib.hid ((hb.cell (cell_lt K3_u.out)).trans K3_u.out)
  replace BB := Lib.hid (BB.out.trans (hb.mono BB.out.size)); clear hb
  (try go_wp2_with fail)
  clear hHeld
  refine hK.out _ _ ?_ (fun hHeld => ?_)
  · (try dsimp only); exact ⟨K0_w.out, K1_w.out, K2_w.out, K3_w.out, K0_x.out, K1_x.out, K2_x.out, K3_x.out, K0_y.out, K1_y.out, K2_y.out, K3_y.out, K0_n.out, K0_m.out, K0_k.out, K0_a.out, K1_a.out, K2_a.out, K3_a.out, K0_d.out, K1_d.out, K2_d.out, K3_d.out, K0_o.out, K1_o.out, K2_o.out, K3_o.out, K0_u.out, K1_u.out, K2_u.out, K3_u.out⟩
  clear hK K
  (try simp only [Act.put, List.setIfInBounds_toArray, List.set_cons_zero, List.set_cons_succ])
  refine wpAnyH_take (i := 67) (oi := { dst := some 155, op := Op.binOp BinOp.neq 9 (Operand.tmp 152) (Operand.tmp 154) 9, type := 4, pos := "laws.go:585", after := #[{ on := 64, ground := Ground.data }, { on := 66, ground := Ground.data }, { on := 62, ground := Ground.guard }], guard := some (62, false) }) (v := ?_) rfl (by kernel_rfl) (by kernel_rfl) (by kernel_rfl) (fun _ _ _ h => h) (Or.inl ⟨by rfl, ?_⟩) (by assumption) ?_
  rotate_left
  · intro w' hSw; (try dsimp only at hSw); first | (go_simp; done) | (go_simp; with_reducible rfl)
  (try simp only [Act.put, List.setIfInBounds_toArray, List.set_cons_zero, List.set_cons_succ])
  refine wpAnyH_take (i := 68) (oi := { dst := some 156, op := Op.pick (Operand.tmp 150) (Operand.const (Value.bool true)) (Operand.tmp 155), type := 4, pos := "laws.go:585", after := #[{ on := 62, ground := Ground.data }, { on := 67, ground := Ground.data }], guard := none }) (v := ?_) rfl (by kernel_rfl) (by kernel_rfl) (by kernel_rfl) (fun _ _ _ h => h) (Or.inl ⟨by rfl, ?_⟩) (by assumption) ?_
  rotate_left
  · intro w' hSw; (try dsimp only at hSw); first | (go_simp; done) | (go_simp; with_reducible rfl)
  (try simp only [Act.put, List.setIfInBounds_toArray, List.set_cons_zero, List.set_cons_succ])
  refine wpAnyH_take (i := 69) (oi := { dst := some 157, op := Op.move (Operand.tmp 156), type := 4, pos := "laws.go:585", after := #[{ on := 68, ground := Ground.data }, { on := 66, ground := Ground.chain }], guard := none }) (v := ?_) rfl (by kernel_rfl) (by kernel_rfl) (by kernel_rfl) (fun _ _ _ h => h) (Or.inl ⟨by rfl, ?_⟩) (by assumption) ?_
  rotate_left
  · intro w' hSw; (try dsimp only at hSw); first | (go_simp; done) | (go_simp; with_reducible rfl)
  (try simp only [Act.put, List.setIfInBounds_toArray, List.set_cons_zero, List.set_cons_succ])
  refine wpAnyH_take (i := 70) (oi := { dst := some 158, op := Op.load 28 (Operand.tmp 3), type := 28, pos := "laws.go:585", after := #[{ on := 69, ground := Ground.guard }], guard := some (69, false) }) (v := ?_) rfl (by kernel_rfl) (by kernel_rfl) (by kernel_rfl) (fun _ _ _ h => h) (Or.inl ⟨by rfl, ?_⟩) (by assumption) ?_
  rotate_left
  · intro w' hSw; (try dsimp only at hSw); first | (go_simp; done) | (go_simp; with_reducible rfl)
  (try simp only [Act.put, List.setIfInBounds_toArray, List.set_cons_zero, List.set_cons_succ])
  refine wpAnyH_take (i := 72) (oi := { dst := some 160, op := Op.load 28 (Operand.tmp 3), type := 28, pos := "laws.go:585", after := #[{ on := 69, ground := Ground.guard }], guard := some (69, false) }) (v := ?_) rfl (by kernel_rfl) (by kernel_rfl) (by kernel_rfl) (fun _ _ _ h => h) (Or.inl ⟨by rfl, ?_⟩) (by assumption) ?_
  rotate_left
  · intro w' hSw; (try dsimp only at hSw); first | (go_simp; done) | (go_simp; with_reducible rfl)
  (try simp only [Act.put, List.setIfInBounds_toArray, List.set_cons_zero, List.set_cons_succ])
  refine wpAnyH_ready (rs := [71]) (by kernel_rfl) (by simp) ?_
  refine AllReadyH.cons (o := { dst := some 159, op := Op.call { callee := Callee.value (Operand.func 28), args := #[Operand.tmp 158], argTypes := #[28] }, type := 4, pos := "laws.go:585", after := #[{ on := 70, ground := Ground.data }, { on := 69, ground := Ground.chain }, { on := 69, ground := Ground.guard }], guard := some (69, false) }) rfl (fun K hK => ?_) AllReadyH.nil
  go_simp
  refine (iValWV z HZ.out Hd_w.out (by omega)).mono ?_
  rintro e wx ⟨rfl, hb⟩
  replace Hd_w := Lib.hid (Hd_w.out.on hb)
  replace Hd_x := Lib.hid (Hd_x.out.on hb)
  replace Hd_y := Lib.hid (Hd_y.out.on hb)
  replace Hd_n := Lib.hid (Hd_n.out.on hb)
  replace Hd_m := Lib.hid (Hd_m.out.on hb)
  replace Hd_k := Lib.hid (Hd_k.out.on hb)
  replace Hd_a := Lib.hid (Hd_a.out.on hb)
  replace Hd_d := Lib.hid (Hd_d.out.on hb)
  replace Hd_o := Lib.hid (Hd_o.out.on hb)
  replace Hd_u := Lib.hid (Hd_u.out.on hb)
  replace Hd_b := Lib.hid (Hd_b.out.on hb)
  replace Hd_p := Lib.hid (Hd_p.out.on hb)
  replace Hd_t := Lib.hid (Hd_t.out.on hb)
  replace K0_w := Lib.hid ((hb.cell (cell_lt K0_w.out)).trans K0_w.out)
  replace K1_w := Lib.hid ((hb.cell (cell_lt K1_w.out)).trans K1_w.out)
  replace K2_w := Lib.hid ((hb.cell (cell_lt K2_w.out)).trans K2_w.out)
  replace K3_w := Lib.hid ((hb.cell (cell_lt K3_w.out)).trans K3_w.out)
  replace K0_x := Lib.hid ((hb.cell (cell_lt K0_x.out)).trans K0_x.out)
  replace K1_x := Lib.hid ((hb.cell (cell_lt K1_x.out)).trans K1_x.out)
  replace K2_x := Lib.hid ((hb.cell (cell_lt K2_x.out)).trans K2_x.out)
  replace K3_x := Lib.hid ((hb.cell (cell_lt K3_x.out)).trans K3_x.out)
  replace K0_y := Lib.hid ((hb.cell (cell_lt K0_y.out)).trans K0_y.out)
  replace K1_y := Lib.hid ((hb.cell (cell_lt K1_y.out)).trans K1_y.out)
  replace K2_y := Lib.hid ((hb.cell (cell_lt K2_y.out)).trans K2_y.out)
  replace K3_y := Lib.hid ((hb.cell (cell_lt K3_y.out)).trans K3_y.out)
  replace K0_n := Lib.hid ((hb.cell (cell_lt K0_n.out)).trans K0_n.out)
  replace K0_m := Lib.hid ((hb.cell (cell_lt K0_m.out)).trans K0_m.out)
  replace K0_k := Lib.hid ((hb.cell (cell_lt K0_k.out)).trans K0_k.out)
  replace K0_a := Lib.hid ((hb.cell (cell_lt K0_a.out)).trans K0_a.out)
  replace K1_a := Lib.hid ((hb.cell (cell_lt K1_a.out)).trans K1_a.out)
  replace K2_a := Lib.hid ((hb.cell (cell_lt K2_a.out)).trans K2_a.out)
  replace K3_a := Lib.hid ((hb.cell (cell_lt K3_a.out)).trans K3_a.out)
  replace K0_d := Lib.hid ((hb.cell (cell_lt K0_d.out)).trans K0_d.out)
  replace K1_d := Lib.hid ((hb.cell (cell_lt K1_d.out)).trans K1_d.out)
  replace K2_d := Lib.hid ((hb.cell (cell_lt K2_d.out)).trans K2_d.out)
  replace K3_d := Lib.hid ((hb.cell (cell_lt K3_d.out)).trans K3_d.out)
  replace K0_o := Lib.hid ((hb.cell (cell_lt K0_o.out)).trans K0_o.out)
  replace K1_o := Lib.hid ((hb.cell (cell_lt K1_o.out)).trans K1_o.out)
  replace K2_o := Lib.hid ((hb.cell (cell_lt K2_o.out)).trans K2_o.out)
  replace K3_o := Lib.hid ((hb.cell (cell_lt K3_o.out)).trans K3_o.out)
  replace K0_u := Lib.hid ((hb.cell (cell_lt K0_u.out)).trans K0_u.out)
  replace K1_u := Lib.hid ((hb.cell (cell_lt K1_u.out)).trans K1_u.out)
  replace K2_u := Lib.hid ((hb.cell (cell_lt K2_u.out)).trans K2_u.out)
  replace K3_u := Lib.hid ((hb.cell (cell_lt K3_u.out)).trans K3_u.out)
  replace BB := Lib.hid (BB.out.trans (hb.mono BB.out.size)); clear hb
  (try go_wp2_with fail)
  clear hHeld
  refine hK.out _ _ ?_ (fun hHeld => ?_)
  · (try dsimp only); exact ⟨K0_w.out, K1_w.out, K2_w.out, K3_w.out, K0_x.out, K1_x.out, K2_x.out, K3_x.out, K0_y.out, K1_y.out, K2_y.out, K3_y.out, K0_n.out, K0_m.out, K0_k.out, K0_a.out, K1_a.out, K2_a.out, K3_a.out, K0_d.out, K1_d.out, K2_d.out, K3_d.out, K0_o.out, K1_o.out, K2_o.out, K3_o.out, K0_u.out, K1_u.out, K2_u.out, K3_u.out⟩
  clear hK K
  (try simp only [Act.put, List.setIfInBounds_toArray, List.set_cons_zero, List.set_cons_succ])
  refine wpAnyH_ready (rs := [73]) (by kernel_rfl) (by simp) ?_
  refine AllReadyH.cons (o := { dst := some 161, op := Op.call { callee := Callee.value (Operand.func 29), args := #[Operand.tmp 160], argTypes := #[28] }, type := 4, pos := "laws.go:585", after := #[{ on := 72, ground := Ground.data }, { on := 71, ground := Ground.chain }, { on := 69, ground := Ground.guard }], guard := some (69, false) }) rfl (fun K hK => ?_) AllReadyH.nil
  go_simp
  refine (sValWV z HZ.out Hd_w.out (by omega)).mono ?_
  rintro e wx ⟨rfl, hb⟩
  replace Hd_w := Lib.hid (Hd_w.out.on hb)
  replace Hd_x := Lib.hid (Hd_x.out.on hb)
  replace Hd_y := Lib.hid (Hd_y.out.on hb)
  replace Hd_n := Lib.hid (Hd_n.out.on hb)
  replace Hd_m := Lib.hid (Hd_m.out.on hb)
  replace Hd_k := Lib.hid (Hd_k.out.on hb)
  replace Hd_a := Lib.hid (Hd_a.out.on hb)
  replace Hd_d := Lib.hid (Hd_d.out.on hb)
  replace Hd_o := Lib.hid (Hd_o.out.on hb)
  replace Hd_u := Lib.hid (Hd_u.out.on hb)
  replace Hd_b := Lib.hid (Hd_b.out.on hb)
  replace Hd_p := Lib.hid (Hd_p.out.on hb)
  replace Hd_t := Lib.hid (Hd_t.out.on hb)
  replace K0_w := Lib.hid ((hb.cell (cell_lt K0_w.out)).trans K0_w.out)
  replace K1_w := Lib.hid ((hb.cell (cell_lt K1_w.out)).trans K1_w.out)
  replace K2_w := Lib.hid ((hb.cell (cell_lt K2_w.out)).trans K2_w.out)
  replace K3_w := Lib.hid ((hb.cell (cell_lt K3_w.out)).trans K3_w.out)
  replace K0_x := Lib.hid ((hb.cell (cell_lt K0_x.out)).trans K0_x.out)
  replace K1_x := Lib.hid ((hb.cell (cell_lt K1_x.out)).trans K1_x.out)
  replace K2_x := Lib.hid ((hb.cell (cell_lt K2_x.out)).trans K2_x.out)
  replace K3_x := Lib.hid ((hb.cell (cell_lt K3_x.out)).trans K3_x.out)
  replace K0_y := Lib.hid ((hb.cell (cell_lt K0_y.out)).trans K0_y.out)
  replace K1_y := Lib.hid ((hb.cell (cell_lt K1_y.out)).trans K1_y.out)
  replace K2_y := Lib.hid ((hb.cell (cell_lt K2_y.out)).trans K2_y.out)
  replace K3_y := Lib.hid ((hb.cell (cell_lt K3_y.out)).trans K3_y.out)
  replace K0_n := Lib.hid ((hb.cell (cell_lt K0_n.out)).trans K0_n.out)
  replace K0_m := Lib.hid ((hb.cell (cell_lt K0_m.out)).trans K0_m.out)
  replace K0_k := Lib.hid ((hb.cell (cell_lt K0_k.out)).trans K0_k.out)
  replace K0_a := Lib.hid ((hb.cell (cell_lt K0_a.out)).trans K0_a.out)
  replace K1_a := Lib.hid ((hb.cell (cell_lt K1_a.out)).trans K1_a.out)
  replace K2_a := Lib.hid ((hb.cell (cell_lt K2_a.out)).trans K2_a.out)
  replace K3_a := Lib.hid ((hb.cell (cell_lt K3_a.out)).trans K3_a.out)
  replace K0_d := Lib.hid ((hb.cell (cell_lt K0_d.out)).trans K0_d.out)
  replace K1_d := Lib.hid ((hb.cell (cell_lt K1_d.out)).trans K1_d.out)
  replace K2_d := Lib.hid ((hb.cell (cell_lt K2_d.out)).trans K2_d.out)
  replace K3_d := Lib.hid ((hb.cell (cell_lt K3_d.out)).trans K3_d.out)
  replace K0_o := Lib.hid ((hb.cell (cell_lt K0_o.out)).trans K0_o.out)
  replace K1_o := Lib.hid ((hb.cell (cell_lt K1_o.out)).trans K1_o.out)
  replace K2_o := Lib.hid ((hb.cell (cell_lt K2_o.out)).trans K2_o.out)
  replace K3_o := Lib.hid ((hb.cell (cell_lt K3_o.out)).trans K3_o.out)
  replace K0_u := Lib.hid ((hb.cell (cell_lt K0_u.out)).trans K0_u.out)
  replace K1_u := Lib.hid ((hb.cell (cell_lt K1_u.out)).trans K1_u.out)
  replace K2_u := Lib.hid ((hb.cell (cell_lt K2_u.out)).trans K2_u.out)
  replace K3_u := Lib.hid ((hb.cell (cell_lt K3_u.out)).trans K3_u.out)
  replace BB := Lib.hid (BB.out.trans (hb.mono BB.out.size)); clear hb
  (try go_wp2_with fail)
  clear hHeld
  refine hK.out _ _ ?_ (fun hHeld => ?_)
  · (try dsimp only); exact ⟨K0_w.out, K1_w.out, K2_w.out, K3_w.out, K0_x.out, K1_x.out, K2_x.out, K3_x.out, K0_y.out, K1_y.out, K2_y.out, K3_y.out, K0_n.out, K0_m.out, K0_k.out, K0_a.out, K1_a.out, K2_a.out, K3_a.out, K0_d.out, K1_d.out, K2_d.out, K3_d.out, K0_o.out, K1_o.out, K2_o.out, K3_o.out, K0_u.out, K1_u.out, K2_u.out, K3_u.out⟩
  clear hK K
  (try simp only [Act.put, List.setIfInBounds_toArray, List.set_cons_zero, List.set_cons_succ])
  refine wpAnyH_take (i := 74) (oi := { dst := some 162, op := Op.binOp BinOp.neq 4 (Operand.tmp 159) (Operand.tmp 161) 4, type := 4, pos := "laws.go:585", after := #[{ on := 71, ground := Ground.data }, { on := 73, ground := Ground.data }, { on := 69, ground := Ground.guard }], guard := some (69, false) }) (v := ?_) rfl (by kernel_rfl) (by kernel_rfl) (by kernel_rfl) (fun _ _ _ h => h) (Or.inl ⟨by rfl, ?_⟩) (by assumption) ?_
  rotate_left
  · intro w' hSw; (try dsimp only at hSw); first | (go_simp; done) | (go_simp; with_reducible rfl)
  (try simp only [Act.put, List.setIfInBounds_toArray, List.set_cons_zero, List.set_cons_succ])
  refine wpAnyH_take (i := 75) (oi := { dst := some 163, op := Op.pick (Operand.tmp 157) (Operand.const (Value.bool true)) (Operand.tmp 162), type := 4, pos := "laws.go:585", after := #[{ on := 69, ground := Ground.data }, { on := 74, ground := Ground.data }], guard := none }) (v := ?_) rfl (by kernel_rfl) (by kernel_rfl) (by kernel_rfl) (fun _ _ _ h => h) (Or.inl ⟨by rfl, ?_⟩) (by assumption) ?_
  rotate_left
  · intro w' hSw; (try dsimp only at hSw); first | (go_simp; done) | (go_simp; with_reducible rfl)
  (try simp only [Act.put, List.setIfInBounds_toArray, List.set_cons_zero, List.set_cons_succ])
  refine wpAnyH_done (by kernel_rfl) ?_ _
  exact NoPanic.normal (HQ.out _ _ _ _ _ _ _ _ _ _ _ _ _ _ _ _ _ _ _ _ _ _ _ _ _ _ _ _ _ _ _ _ _ _ _ _ _ _ _ _ _ _ _ _ _ _ _ _ _ _ _ _ _ _ _ _ _ _ _ _ _ _ _ _ _ _ _ _ _ _ _ _ _ _ _ _ BB.out)

end Go.Proofs.YtnnhgcfelkcpfaaDoor.Row
/- The second region of FnWants, four ways: whatever order is drawn, its last value is false. No conditions. -/
namespace Go.Proofs.YtnnhgcfelkcpfaaDoor.Row
open Go.ChangeShapes Go.WideShapes Go.ChangeAt Go.RowKit Go.Instr
set_option linter.unusedVariables false
set_option maxRecDepth 100000

set_option maxRecDepth 100000 in
set_option maxHeartbeats 4000000 in
theorem regX7_00 {Q : Exit → Act → World → Prop} {v0 v1 v2 v3 v4 v5 v6 v8 v9 v10 v11 v12 v13 v14 v15 v17 v18 v19 v20 v21 v22 v23 v24 v25 v26 v27 v28 v29 v30 v31 v32 v33 v34 v35 v36 v37 v38 v39 v40 v41 v42 v43 v44 v45 v46 v47 v48 v49 v50 v51 v52 v53 v54 v55 v56 v57 v58 v59 v60 v61 v62 v63 v64 v65 v66 v67 v68 v69 v70 v71 v72 v73 v74 v75 v76 v77 v78 v79 v80 v81 v82 v83 v84 v85 v86 v87 v88 v89 v90 v91 v92 v93 v94 v95 v96 v97 v98 v99 v100 v101 v102 v103 v104 v105 v106 v107 v108 v109 v110 v111 v112 v113 v114 v115 v116 v117 v118 v119 v120 v121 v122 v123 v124 v125 v126 v127 v128 v129 v130 v131 v132 v133 v134 v135 v136 v137 v138 v139 v140 v141 v142 v143 v144 v145 v146 v147 v148 v149 v150 v151 v152 v153 v154 v155 v156 v157 v158 v159 v160 v161 v162 v163 v164 v165 v166 v167 v168 v169 v170 v171 v172 v173 v174 v175 v176 v177 v178 v179 v180 v181 v182 v183 v184 v185 v186 v187 v188 v189 v190 v191 v192 v193 v194 v195 v196 v197 v198 v199 v200 v201 v202 v203 v204 v205 v206 v207 v208 v209 v210 v211 v212 v213 v214 v215 v216 v217 v218 v219 v220 v221 v222 v223 v224 v225 v226 : Value} {w : World}  
    (hQ : ∀ (u164 u165 u166 u167 u168 u169 u170 u171 u172 u173 u174 u175 u176 u177 u178 u179 u180 u181 u182 u183 u184 u185 u186 u187 u188 u189 u190 : Value) (wx : World), Below w.heap.size w wx → Q .normal ⟨#[v0, v1, v2, v3, v4, v5, v6, .bool false, v8, v9, v10, v11, v12, v13, v14, v15, .bool false, v17, v18, v19, v20, v21, v22, v23, v24, v25, v26, v27, v28, v29, v30, v31, v32, v33, v34, v35, v36, v37, v38, v39, v40, v41, v42, v43, v44, v45, v46, v47, v48, v49, v50, v51, v52, v53, v54, v55, v56, v57, v58, v59, v60, v61, v62, v63, v64, v65, v66, v67, v68, v69, v70, v71, v72, v73, v74, v75, v76, v77, v78, v79, v80, v81, v82, v83, v84, v85, v86, v87, v88, v89, v90, v91, v92, v93, v94, v95, v96, v97, v98, v99, v100, v101, v102, v103, v104, v105, v106, v107, v108, v109, v110, v111, v112, v113, v114, v115, v116, v117, v118, v119, v120, v121, v122, v123, v124, v125, v126, v127, v128, v129, v130, v131, v132, v133, v134, v135, v136, v137, v138, v139, v140, v141, v142, v143, v144, v145, v146, v147, v148, v149, v150, v151, v152, v153, v154, v155, v156, v157, v158, v159, v160, v161, v162, v163, u164, u165, u166, u167, u168, u169, u170, u171, u172, u173, u174, u175, u176, u177, u178, u179, u180, u181, u182, u183, u184, u185, u186, u187, u188, u189, u190, .bool false, v192, v193, v194, v195, v196, v197, v198, v199, v200, v201, v202, v203, v204, v205, v206, v207, v208, v209, v210, v211, v212, v213, v214, v215, v216, v217, v218, v219, v220, v221, v222, v223, v224, v225, v226], []⟩ wx) :
    (Code.region 18 #[{ dst := some 164, op := Op.move (Operand.tmp 7), type := 4, pos := "laws.go:588", after := #[], guard := none },
      { dst := some 165, op := Op.move (Operand.tmp 164), type := 4, pos := "laws.go:588", after := #[{ on := 0, ground := Ground.data }], guard := none },
      { dst := some 166, op := Op.load 28 (Operand.tmp 6), type := 28, pos := "laws.go:588", after := #[{ on := 1, ground := Ground.guard }], guard := some (1, true) },
      { dst := some 167, op := Op.call { callee := Callee.value (Operand.func 28), args := #[Operand.tmp 166], argTypes := #[28] }, type := 4, pos := "laws.go:588", after := #[{ on := 2, ground := Ground.data }, { on := 1, ground := Ground.chain }, { on := 1, ground := Ground.guard }], guard := some (1, true) },
      { dst := some 168, op := Op.unOp UnOp.not 4 (Operand.tmp 167), type := 4, pos := "laws.go:588", after := #[{ on := 3, ground := Ground.data }, { on := 1, ground := Ground.guard }], guard := some (1, true) },
      { dst := some 169, op := Op.move (Operand.tmp 168), type := 4, pos := "laws.go:588", after := #[{ on := 4, ground := Ground.data }, { on := 3, ground := Ground.chain }, { on := 1, ground := Ground.guard }], guard := some (1, true) },
      { dst := some 170, op := Op.load 28 (Operand.tmp 6), type := 28, pos := "laws.go:588", after := #[{ on := 5, ground := Ground.guard }], guard := some (5, false) },
      { dst := some 171, op := Op.call { callee := Callee.value (Operand.func 7), args := #[Operand.tmp 170], argTypes := #[28] }, type := 22, pos := "laws.go:588", after := #[{ on := 6, ground := Ground.data }, { on := 5, ground := Ground.chain }, { on := 5, ground := Ground.guard }], guard := some (5, false) },
      { dst := some 172, op := Op.move (Operand.tmp 5), type := 22, pos := "laws.go:588", after := #[{ on := 5, ground := Ground.guard }], guard := some (5, false) },
      { dst := some 173, op := Op.call { callee := Callee.value (Operand.func 19), args := #[Operand.tmp 171, Operand.tmp 172], argTypes := #[22, 22] }, type := 4, pos := "laws.go:588", after := #[{ on := 7, ground := Ground.data }, { on := 8, ground := Ground.data }, { on := 7, ground := Ground.chain }, { on := 5, ground := Ground.guard }], guard := some (5, false) },
      { dst := some 174, op := Op.unOp UnOp.not 4 (Operand.tmp 173), type := 4, pos := "laws.go:588", after := #[{ on := 9, ground := Ground.data }, { on := 5, ground := Ground.guard }], guard := some (5, false) },
      { dst := some 175, op := Op.pick (Operand.tmp 169) (Operand.const (Value.bool true)) (Operand.tmp 174), type := 4, pos := "laws.go:588", after := #[{ on := 5, ground := Ground.data }, { on := 10, ground := Ground.data }, { on := 1, ground := Ground.guard }], guard := some (1, true) },
      { dst := some 176, op := Op.pick (Operand.tmp 165) (Operand.tmp 175) (Operand.const (Value.bool false)), type := 4, pos := "laws.go:588", after := #[{ on := 1, ground := Ground.data }, { on := 11, ground := Ground.data }], guard := none },
      { dst := some 177, op := Op.move (Operand.tmp 176), type := 4, pos := "laws.go:588", after := #[{ on := 12, ground := Ground.data }, { on := 9, ground := Ground.chain }], guard := none },
      { dst := some 178, op := Op.move (Operand.tmp 16), type := 4, pos := "laws.go:588", after := #[{ on := 13, ground := Ground.guard }], guard := some (13, false) },
      { dst := some 179, op := Op.move (Operand.tmp 178), type := 4, pos := "laws.go:588", after := #[{ on := 14, ground := Ground.data }, { on := 13, ground := Ground.chain }, { on := 13, ground := Ground.guard }], guard := some (13, false) },
      { dst := some 180, op := Op.move (Operand.tmp 12), type := 22, pos := "laws.go:588", after := #[{ on := 15, ground := Ground.guard }], guard := some (15, true) },
      { dst := some 181, op := Op.move (Operand.tmp 13), type := 3, pos := "laws.go:588", after := #[{ on := 15, ground := Ground.guard }], guard := some (15, true) },
      { dst := some 182, op := Op.slice 22 (Operand.tmp 180) none (some (Operand.tmp 181)) none, type := 22, pos := "laws.go:588", after := #[{ on := 16, ground := Ground.data }, { on := 17, ground := Ground.data }, { on := 15, ground := Ground.guard }], guard := some (15, true) },
      { dst := some 183, op := Op.load 26 (Operand.tmp 14), type := 26, pos := "laws.go:588", after := #[{ on := 15, ground := Ground.guard }], guard := some (15, true) },
      { dst := some 184, op := Op.call { callee := Callee.value (Operand.func 22), args := #[Operand.tmp 182, Operand.tmp 183], argTypes := #[22, 26] }, type := 22, pos := "laws.go:588", after := #[{ on := 18, ground := Ground.data }, { on := 19, ground := Ground.data }, { on := 15, ground := Ground.chain }, { on := 15, ground := Ground.guard }], guard := some (15, true) },
      { dst := some 185, op := Op.move (Operand.tmp 12), type := 22, pos := "laws.go:588", after := #[{ on := 15, ground := Ground.guard }], guard := some (15, true) },
      { dst := some 186, op := Op.move (Operand.tmp 15), type := 3, pos := "laws.go:588", after := #[{ on := 15, ground := Ground.guard }], guard := some (15, true) },
      { dst := some 187, op := Op.slice 22 (Operand.tmp 185) none (some (Operand.tmp 186)) none, type := 22, pos := "laws.go:588", after := #[{ on := 21, ground := Ground.data }, { on := 22, ground := Ground.data }, { on := 15, ground := Ground.guard }], guard := some (15, true) },
      { dst := some 188, op := Op.call { callee := Callee.value (Operand.func 19), args := #[Operand.tmp 184, Operand.tmp 187], argTypes := #[22, 22] }, type := 4, pos := "laws.go:588", after := #[{ on := 20, ground := Ground.data }, { on := 23, ground := Ground.data }, { on := 20, ground := Ground.chain }, { on := 15, ground := Ground.guard }], guard := some (15, true) },
      { dst := some 189, op := Op.unOp UnOp.not 4 (Operand.tmp 188), type := 4, pos := "laws.go:588", after := #[{ on := 24, ground := Ground.data }, { on := 15, ground := Ground.guard }], guard := some (15, true) },
      { dst := some 190, op := Op.pick (Operand.tmp 179) (Operand.tmp 189) (Operand.const (Value.bool false)), type := 4, pos := "laws.go:588", after := #[{ on := 15, ground := Ground.data }, { on := 25, ground := Ground.data }, { on := 13, ground := Ground.guard }], guard := some (13, false) },
      { dst := some 191, op := Op.pick (Operand.tmp 177) (Operand.const (Value.bool true)) (Operand.tmp 190), type := 4, pos := "laws.go:588", after := #[{ on := 13, ground := Ground.data }, { on := 26, ground := Ground.data }], guard := none }] true).wp Tryd.prog Q ⟨#[v0, v1, v2, v3, v4, v5, v6, .bool false, v8, v9, v10, v11, v12, v13, v14, v15, .bool false, v17, v18, v19, v20, v21, v22, v23, v24, v25, v26, v27, v28, v29, v30, v31, v32, v33, v34, v35, v36, v37, v38, v39, v40, v41, v42, v43, v44, v45, v46, v47, v48, v49, v50, v51, v52, v53, v54, v55, v56, v57, v58, v59, v60, v61, v62, v63, v64, v65, v66, v67, v68, v69, v70, v71, v72, v73, v74, v75, v76, v77, v78, v79, v80, v81, v82, v83, v84, v85, v86, v87, v88, v89, v90, v91, v92, v93, v94, v95, v96, v97, v98, v99, v100, v101, v102, v103, v104, v105, v106, v107, v108, v109, v110, v111, v112, v113, v114, v115, v116, v117, v118, v119, v120, v121, v122, v123, v124, v125, v126, v127, v128, v129, v130, v131, v132, v133, v134, v135, v136, v137, v138, v139, v140, v141, v142, v143, v144, v145, v146, v147, v148, v149, v150, v151, v152, v153, v154, v155, v156, v157, v158, v159, v160, v161, v162, v163, v164, v165, v166, v167, v168, v169, v170, v171, v172, v173, v174, v175, v176, v177, v178, v179, v180, v181, v182, v183, v184, v185, v186, v187, v188, v189, v190, v191, v192, v193, v194, v195, v196, v197, v198, v199, v200, v201, v202, v203, v204, v205, v206, v207, v208, v209, v210, v211, v212, v213, v214, v215, v216, v217, v218, v219, v220, v221, v222, v223, v224, v225, v226], []⟩ w := by
  have HQ := Lib.hid hQ; clear hQ
  have hdr : Below w.heap.size w w.drew := (Below.refl _ _).drew
  have BB := Lib.hid hdr; clear hdr
  refine wp_region_noPanic ?_
  refine wp_region_held_drew (S := (fun _ => True)) (by kernel_rfl) ?_ (fun hHeld => ?_)
  · trivial
  refine wpAnyH_take (i := 0) (oi := { dst := some 164, op := Op.move (Operand.tmp 7), type := 4, pos := "laws.go:588", after := #[], guard := none }) (v := ?_) rfl (by kernel_rfl) (by kernel_rfl) (by kernel_rfl) (fun _ _ _ h => h) (Or.inl ⟨by rfl, ?_⟩) (by assumption) ?_
  rotate_left
  · intro w' hSw; (try dsimp only at hSw); first | (go_simp; done) | (go_simp; with_reducible rfl)
  (try simp only [Act.put, List.setIfInBounds_toArray, List.set_cons_zero, List.set_cons_succ])
  refine wpAnyH_take (i := 1) (oi := { dst := some 165, op := Op.move (Operand.tmp 164), type := 4, pos := "laws.go:588", after := #[{ on := 0, ground := Ground.data }], guard := none }) (v := ?_) rfl (by kernel_rfl) (by kernel_rfl) (by kernel_rfl) (fun _ _ _ h => h) (Or.inl ⟨by rfl, ?_⟩) (by assumption) ?_
  rotate_left
  · intro w' hSw; (try dsimp only at hSw); first | (go_simp; done) | (go_simp; with_reducible rfl)
  (try simp only [Act.put, List.setIfInBounds_toArray, List.set_cons_zero, List.set_cons_succ])
  refine wpAnyH_take (i := 2) (oi := { dst := some 166, op := Op.load 28 (Operand.tmp 6), type := 28, pos := "laws.go:588", after := #[{ on := 1, ground := Ground.guard }], guard := some (1, true) }) (v := undef) rfl (by kernel_rfl) (by kernel_rfl) (by kernel_rfl) (fun _ _ _ h => h) (Or.inr ⟨by rfl, rfl⟩) (by assumption) ?_
  (try simp only [Act.put, List.setIfInBounds_toArray, List.set_cons_zero, List.set_cons_succ])
  refine wpAnyH_take (i := 3) (oi := { dst := some 167, op := Op.call { callee := Callee.value (Operand.func 28), args := #[Operand.tmp 166], argTypes := #[28] }, type := 4, pos := "laws.go:588", after := #[{ on := 2, ground := Ground.data }, { on := 1, ground := Ground.chain }, { on := 1, ground := Ground.guard }], guard := some (1, true) }) (v := undef) rfl (by kernel_rfl) (by kernel_rfl) (by kernel_rfl) (fun _ _ _ h => h) (Or.inr ⟨by rfl, rfl⟩) (by assumption) ?_
  (try simp only [Act.put, List.setIfInBounds_toArray, List.set_cons_zero, List.set_cons_succ])
  refine wpAnyH_take (i := 4) (oi := { dst := some 168, op := Op.unOp UnOp.not 4 (Operand.tmp 167), type := 4, pos := "laws.go:588", after := #[{ on := 3, ground := Ground.data }, { on := 1, ground := Ground.guard }], guard := some (1, true) }) (v := undef) rfl (by kernel_rfl) (by kernel_rfl) (by kernel_rfl) (fun _ _ _ h => h) (Or.inr ⟨by rfl, rfl⟩) (by assumption) ?_
  (try simp only [Act.put, List.setIfInBounds_toArray, List.set_cons_zero, List.set_cons_succ])
  refine wpAnyH_take (i := 5) (oi := { dst := some 169, op := Op.move (Operand.tmp 168), type := 4, pos := "laws.go:588", after := #[{ on := 4, ground := Ground.data }, { on := 3, ground := Ground.chain }, { on := 1, ground := Ground.guard }], guard := some (1, true) }) (v := undef) rfl (by kernel_rfl) (by kernel_rfl) (by kernel_rfl) (fun _ _ _ h => h) (Or.inr ⟨by rfl, rfl⟩) (by assumption) ?_
  (try simp only [Act.put, List.setIfInBounds_toArray, List.set_cons_zero, List.set_cons_succ])
  refine wpAnyH_take (i := 6) (oi := { dst := some 170, op := Op.load 28 (Operand.tmp 6), type := 28, pos := "laws.go:588", after := #[{ on := 5, ground := Ground.guard }], guard := some (5, false) }) (v := undef) rfl (by kernel_rfl) (by kernel_rfl) (by kernel_rfl) (fun _ _ _ h => h) (Or.inr ⟨by rfl, rfl⟩) (by assumption) ?_
  (try simp only [Act.put, List.setIfInBounds_toArray, List.set_cons_zero, List.set_cons_succ])
  refine wpAnyH_take (i := 7) (oi := { dst := some 171, op := Op.call { callee := Callee.value (Operand.func 7), args := #[Operand.tmp 170], argTypes := #[28] }, type := 22, pos := "laws.go:588", after := #[{ on := 6, ground := Ground.data }, { on := 5, ground := Ground.chain }, { on := 5, ground := Ground.guard }], guard := some (5, false) }) (v := undef) rfl (by kernel_rfl) (by kernel_rfl) (by kernel_rfl) (fun _ _ _ h => h) (Or.inr ⟨by rfl, rfl⟩) (by assumption) ?_
  (try simp only [Act.put, List.setIfInBounds_toArray, List.set_cons_zero, List.set_cons_succ])
  refine wpAnyH_take (i := 8) (oi := { dst := some 172, op := Op.move (Operand.tmp 5), type := 22, pos := "laws.go:588", after := #[{ on := 5, ground := Ground.guard }], guard := some (5, false) }) (v := undef) rfl (by kernel_rfl) (by kernel_rfl) (by kernel_rfl) (fun _ _ _ h => h) (Or.inr ⟨by rfl, rfl⟩) (by assumption) ?_
  (try simp only [Act.put, List.setIfInBounds_toArray, List.set_cons_zero, List.set_cons_succ])
  refine wpAnyH_take (i := 9) (oi := { dst := some 173, op := Op.call { callee := Callee.value (Operand.func 19), args := #[Operand.tmp 171, Operand.tmp 172], argTypes := #[22, 22] }, type := 4, pos := "laws.go:588", after := #[{ on := 7, ground := Ground.data }, { on := 8, ground := Ground.data }, { on := 7, ground := Ground.chain }, { on := 5, ground := Ground.guard }], guard := some (5, false) }) (v := undef) rfl (by kernel_rfl) (by kernel_rfl) (by kernel_rfl) (fun _ _ _ h => h) (Or.inr ⟨by rfl, rfl⟩) (by assumption) ?_
  (try simp only [Act.put, List.setIfInBounds_toArray, List.set_cons_zero, List.set_cons_succ])
  refine wpAnyH_take (i := 10) (oi := { dst := some 174, op := Op.unOp UnOp.not 4 (Operand.tmp 173), type := 4, pos := "laws.go:588", after := #[{ on := 9, ground := Ground.data }, { on := 5, ground := Ground.guard }], guard := some (5, false) }) (v := undef) rfl (by kernel_rfl) (by kernel_rfl) (by kernel_rfl) (fun _ _ _ h => h) (Or.inr ⟨by rfl, rfl⟩) (by assumption) ?_
  (try simp only [Act.put, List.setIfInBounds_toArray, List.set_cons_zero, List.set_cons_succ])
  refine wpAnyH_take (i := 11) (oi := { dst := some 175, op := Op.pick (Operand.tmp 169) (Operand.const (Value.bool true)) (Operand.tmp 174), type := 4, pos := "laws.go:588", after := #[{ on := 5, ground := Ground.data }, { on := 10, ground := Ground.data }, { on := 1, ground := Ground.guard }], guard := some (1, true) }) (v := undef) rfl (by kernel_rfl) (by kernel_rfl) (by kernel_rfl) (fun _ _ _ h => h) (Or.inr ⟨by rfl, rfl⟩) (by assumption) ?_
  (try simp only [Act.put, List.setIfInBounds_toArray, List.set_cons_zero, List.set_cons_succ])
  refine wpAnyH_take (i := 12) (oi := { dst := some 176, op := Op.pick (Operand.tmp 165) (Operand.tmp 175) (Operand.const (Value.bool false)), type := 4, pos := "laws.go:588", after := #[{ on := 1, ground := Ground.data }, { on := 11, ground := Ground.data }], guard := none }) (v := ?_) rfl (by kernel_rfl) (by kernel_rfl) (by kernel_rfl) (fun _ _ _ h => h) (Or.inl ⟨by rfl, ?_⟩) (by assumption) ?_
  rotate_left
  · intro w' hSw; (try dsimp only at hSw); first | (go_simp; done) | (go_simp; with_reducible rfl)
  (try simp only [Act.put, List.setIfInBounds_toArray, List.set_cons_zero, List.set_cons_succ])
  refine wpAnyH_take (i := 13) (oi := { dst := some 177, op := Op.move (Operand.tmp 176), type := 4, pos := "laws.go:588", after := #[{ on := 12, ground := Ground.data }, { on := 9, ground := Ground.chain }], guard := none }) (v := ?_) rfl (by kernel_rfl) (by kernel_rfl) (by kernel_rfl) (fun _ _ _ h => h) (Or.inl ⟨by rfl, ?_⟩) (by assumption) ?_
  rotate_left
  · intro w' hSw; (try dsimp only at hSw); first | (go_simp; done) | (go_simp; with_reducible rfl)
  (try simp only [Act.put, List.setIfInBounds_toArray, List.set_cons_zero, List.set_cons_succ])
  refine wpAnyH_take (i := 14) (oi := { dst := some 178, op := Op.move (Operand.tmp 16), type := 4, pos := "laws.go:588", after := #[{ on := 13, ground := Ground.guard }], guard := some (13, false) }) (v := ?_) rfl (by kernel_rfl) (by kernel_rfl) (by kernel_rfl) (fun _ _ _ h => h) (Or.inl ⟨by rfl, ?_⟩) (by assumption) ?_
  rotate_left
  · intro w' hSw; (try dsimp only at hSw); first | (go_simp; done) | (go_simp; with_reducible rfl)
  (try simp only [Act.put, List.setIfInBounds_toArray, List.set_cons_zero, List.set_cons_succ])
  refine wpAnyH_take (i := 15) (oi := { dst := some 179, op := Op.move (Operand.tmp 178), type := 4, pos := "laws.go:588", after := #[{ on := 14, ground := Ground.data }, { on := 13, ground := Ground.chain }, { on := 13, ground := Ground.guard }], guard := some (13, false) }) (v := ?_) rfl (by kernel_rfl) (by kernel_rfl) (by kernel_rfl) (fun _ _ _ h => h) (Or.inl ⟨by rfl, ?_⟩) (by assumption) ?_
  rotate_left
  · intro w' hSw; (try dsimp only at hSw); first | (go_simp; done) | (go_simp; with_reducible rfl)
  (try simp only [Act.put, List.setIfInBounds_toArray, List.set_cons_zero, List.set_cons_succ])
  refine wpAnyH_take (i := 16) (oi := { dst := some 180, op := Op.move (Operand.tmp 12), type := 22, pos := "laws.go:588", after := #[{ on := 15, ground := Ground.guard }], guard := some (15, true) }) (v := undef) rfl (by kernel_rfl) (by kernel_rfl) (by kernel_rfl) (fun _ _ _ h => h) (Or.inr ⟨by rfl, rfl⟩) (by assumption) ?_
  (try simp only [Act.put, List.setIfInBounds_toArray, List.set_cons_zero, List.set_cons_succ])
  refine wpAnyH_take (i := 17) (oi := { dst := some 181, op := Op.move (Operand.tmp 13), type := 3, pos := "laws.go:588", after := #[{ on := 15, ground := Ground.guard }], guard := some (15, true) }) (v := undef) rfl (by kernel_rfl) (by kernel_rfl) (by kernel_rfl) (fun _ _ _ h => h) (Or.inr ⟨by rfl, rfl⟩) (by assumption) ?_
  (try simp only [Act.put, List.setIfInBounds_toArray, List.set_cons_zero, List.set_cons_succ])
  refine wpAnyH_take (i := 18) (oi := { dst := some 182, op := Op.slice 22 (Operand.tmp 180) none (some (Operand.tmp 181)) none, type := 22, pos := "laws.go:588", after := #[{ on := 16, ground := Ground.data }, { on := 17, ground := Ground.data }, { on := 15, ground := Ground.guard }], guard := some (15, true) }) (v := undef) rfl (by kernel_rfl) (by kernel_rfl) (by kernel_rfl) (fun _ _ _ h => h) (Or.inr ⟨by rfl, rfl⟩) (by assumption) ?_
  (try simp only [Act.put, List.setIfInBounds_toArray, List.set_cons_zero, List.set_cons_succ])
  refine wpAnyH_take (i := 19) (oi := { dst := some 183, op := Op.load 26 (Operand.tmp 14), type := 26, pos := "laws.go:588", after := #[{ on := 15, ground := Ground.guard }], guard := some (15, true) }) (v := undef) rfl (by kernel_rfl) (by kernel_rfl) (by kernel_rfl) (fun _ _ _ h => h) (Or.inr ⟨by rfl, rfl⟩) (by assumption) ?_
  (try simp only [Act.put, List.setIfInBounds_toArray, List.set_cons_zero, List.set_cons_succ])
  refine wpAnyH_take (i := 20) (oi := { dst := some 184, op := Op.call { callee := Callee.value (Operand.func 22), args := #[Operand.tmp 182, Operand.tmp 183], argTypes := #[22, 26] }, type := 22, pos := "laws.go:588", after := #[{ on := 18, ground := Ground.data }, { on := 19, ground := Ground.data }, { on := 15, ground := Ground.chain }, { on := 15, ground := Ground.guard }], guard := some (15, true) }) (v := undef) rfl (by kernel_rfl) (by kernel_rfl) (by kernel_rfl) (fun _ _ _ h => h) (Or.inr ⟨by rfl, rfl⟩) (by assumption) ?_
  (try simp only [Act.put, List.setIfInBounds_toArray, List.set_cons_zero, List.set_cons_succ])
  refine wpAnyH_take (i := 21) (oi := { dst := some 185, op := Op.move (Operand.tmp 12), type := 22, pos := "laws.go:588", after := #[{ on := 15, ground := Ground.guard }], guard := some (15, true) }) (v := undef) rfl (by kernel_rfl) (by kernel_rfl) (by kernel_rfl) (fun _ _ _ h => h) (Or.inr ⟨by rfl, rfl⟩) (by assumption) ?_
  (try simp only [Act.put, List.setIfInBounds_toArray, List.set_cons_zero, List.set_cons_succ])
  refine wpAnyH_take (i := 22) (oi := { dst := some 186, op := Op.move (Operand.tmp 15), type := 3, pos := "laws.go:588", after := #[{ on := 15, ground := Ground.guard }], guard := some (15, true) }) (v := undef) rfl (by kernel_rfl) (by kernel_rfl) (by kernel_rfl) (fun _ _ _ h => h) (Or.inr ⟨by rfl, rfl⟩) (by assumption) ?_
  (try simp only [Act.put, List.setIfInBounds_toArray, List.set_cons_zero, List.set_cons_succ])
  refine wpAnyH_take (i := 23) (oi := { dst := some 187, op := Op.slice 22 (Operand.tmp 185) none (some (Operand.tmp 186)) none, type := 22, pos := "laws.go:588", after := #[{ on := 21, ground := Ground.data }, { on := 22, ground := Ground.data }, { on := 15, ground := Ground.guard }], guard := some (15, true) }) (v := undef) rfl (by kernel_rfl) (by kernel_rfl) (by kernel_rfl) (fun _ _ _ h => h) (Or.inr ⟨by rfl, rfl⟩) (by assumption) ?_
  (try simp only [Act.put, List.setIfInBounds_toArray, List.set_cons_zero, List.set_cons_succ])
  refine wpAnyH_take (i := 24) (oi := { dst := some 188, op := Op.call { callee := Callee.value (Operand.func 19), args := #[Operand.tmp 184, Operand.tmp 187], argTypes := #[22, 22] }, type := 4, pos := "laws.go:588", after := #[{ on := 20, ground := Ground.data }, { on := 23, ground := Ground.data }, { on := 20, ground := Ground.chain }, { on := 15, ground := Ground.guard }], guard := some (15, true) }) (v := undef) rfl (by kernel_rfl) (by kernel_rfl) (by kernel_rfl) (fun _ _ _ h => h) (Or.inr ⟨by rfl, rfl⟩) (by assumption) ?_
  (try simp only [Act.put, List.setIfInBounds_toArray, List.set_cons_zero, List.set_cons_succ])
  refine wpAnyH_take (i := 25) (oi := { dst := some 189, op := Op.unOp UnOp.not 4 (Operand.tmp 188), type := 4, pos := "laws.go:588", after := #[{ on := 24, ground := Ground.data }, { on := 15, ground := Ground.guard }], guard := some (15, true) }) (v := undef) rfl (by kernel_rfl) (by kernel_rfl) (by kernel_rfl) (fun _ _ _ h => h) (Or.inr ⟨by rfl, rfl⟩) (by assumption) ?_
  (try simp only [Act.put, List.setIfInBounds_toArray, List.set_cons_zero, List.set_cons_succ])
  refine wpAnyH_take (i := 26) (oi := { dst := some 190, op := Op.pick (Operand.tmp 179) (Operand.tmp 189) (Operand.const (Value.bool false)), type := 4, pos := "laws.go:588", after := #[{ on := 15, ground := Ground.data }, { on := 25, ground := Ground.data }, { on := 13, ground := Ground.guard }], guard := some (13, false) }) (v := ?_) rfl (by kernel_rfl) (by kernel_rfl) (by kernel_rfl) (fun _ _ _ h => h) (Or.inl ⟨by rfl, ?_⟩) (by assumption) ?_
  rotate_left
  · intro w' hSw; (try dsimp only at hSw); first | (go_simp; done) | (go_simp; with_reducible rfl)
  (try simp only [Act.put, List.setIfInBounds_toArray, List.set_cons_zero, List.set_cons_succ])
  refine wpAnyH_take (i := 27) (oi := { dst := some 191, op := Op.pick (Operand.tmp 177) (Operand.const (Value.bool true)) (Operand.tmp 190), type := 4, pos := "laws.go:588", after := #[{ on := 13, ground := Ground.data }, { on := 26, ground := Ground.data }], guard := none }) (v := ?_) rfl (by kernel_rfl) (by kernel_rfl) (by kernel_rfl) (fun _ _ _ h => h) (Or.inl ⟨by rfl, ?_⟩) (by assumption) ?_
  rotate_left
  · intro w' hSw; (try dsimp only at hSw); first | (go_simp; done) | (go_simp; with_reducible rfl)
  (try simp only [Act.put, List.setIfInBounds_toArray, List.set_cons_zero, List.set_cons_succ])
  refine wpAnyH_done (by kernel_rfl) ?_ _
  exact NoPanic.normal (HQ.out _ _ _ _ _ _ _ _ _ _ _ _ _ _ _ _ _ _ _ _ _ _ _ _ _ _ _ _ BB.out)

set_option maxRecDepth 100000 in
set_option maxHeartbeats 4000000 in
theorem regX7_01 {Q : Exit → Act → World → Prop} {v0 v1 v2 v3 v4 v5 v6 v8 v9 v10 v11 v17 v18 v19 v20 v21 v22 v23 v24 v25 v26 v27 v28 v29 v30 v31 v32 v33 v34 v35 v36 v37 v38 v39 v40 v41 v42 v43 v44 v45 v46 v47 v48 v49 v50 v51 v52 v53 v54 v55 v56 v57 v58 v59 v60 v61 v62 v63 v64 v65 v66 v67 v68 v69 v70 v71 v72 v73 v74 v75 v76 v77 v78 v79 v80 v81 v82 v83 v84 v85 v86 v87 v88 v89 v90 v91 v92 v93 v94 v95 v96 v97 v98 v99 v100 v101 v102 v103 v104 v105 v106 v107 v108 v109 v110 v111 v112 v113 v114 v115 v116 v117 v118 v119 v120 v121 v122 v123 v124 v125 v126 v127 v128 v129 v130 v131 v132 v133 v134 v135 v136 v137 v138 v139 v140 v141 v142 v143 v144 v145 v146 v147 v148 v149 v150 v151 v152 v153 v154 v155 v156 v157 v158 v159 v160 v161 v162 v163 v164 v165 v166 v167 v168 v169 v170 v171 v172 v173 v174 v175 v176 v177 v178 v179 v180 v181 v182 v183 v184 v185 v186 v187 v188 v189 v190 v191 v192 v193 v194 v195 v196 v197 v198 v199 v200 v201 v202 v203 v204 v205 v206 v207 v208 v209 v210 v211 v212 v213 v214 v215 v216 v217 v218 v219 v220 v221 v222 v223 v224 v225 v226 : Value} {w : World} {bm ii jj : Nat} {lm : List ByteArray} {eq : List Int} {x_m : Option Addr} {n_m c_m : Nat} {x_q : Option Addr} {n_q c_q : Nat} (K0_m : Hid (w.cell? ⟨bm, 0, none⟩ = some (.slice x_m n_m c_m))) (H_m : Hid (kN.At w (.agg #[.slice x_m n_m c_m]) lm)) (H_q : Hid (kB.At w (.slice x_q n_q c_q) eq)) (HA : Hid (appName (eq.take ii) lm = eq.take jj)) (j1 : (ii : Int) ≤ (c_q : Int)) (j2 : (jj : Int) ≤ (c_q : Int)) (j3 : ii ≤ n_q) (j4 : jj ≤ n_q) (h4 : bulk lm ≤ 1000) (h5 : eq.length ≤ 1000000)
    (hQ : ∀ (u164 u165 u166 u167 u168 u169 u170 u171 u172 u173 u174 u175 u176 u177 u178 u179 u180 u181 u182 u183 u184 u185 u186 u187 u188 u189 u190 : Value) (wx : World), Below w.heap.size w wx → Q .normal ⟨#[v0, v1, v2, v3, v4, v5, v6, .bool false, v8, v9, v10, v11, .slice x_q n_q c_q, .int .i64 (ii : Nat), .pointer (some ⟨bm, 0, none⟩), .int .i64 (jj : Nat), .bool true, v17, v18, v19, v20, v21, v22, v23, v24, v25, v26, v27, v28, v29, v30, v31, v32, v33, v34, v35, v36, v37, v38, v39, v40, v41, v42, v43, v44, v45, v46, v47, v48, v49, v50, v51, v52, v53, v54, v55, v56, v57, v58, v59, v60, v61, v62, v63, v64, v65, v66, v67, v68, v69, v70, v71, v72, v73, v74, v75, v76, v77, v78, v79, v80, v81, v82, v83, v84, v85, v86, v87, v88, v89, v90, v91, v92, v93, v94, v95, v96, v97, v98, v99, v100, v101, v102, v103, v104, v105, v106, v107, v108, v109, v110, v111, v112, v113, v114, v115, v116, v117, v118, v119, v120, v121, v122, v123, v124, v125, v126, v127, v128, v129, v130, v131, v132, v133, v134, v135, v136, v137, v138, v139, v140, v141, v142, v143, v144, v145, v146, v147, v148, v149, v150, v151, v152, v153, v154, v155, v156, v157, v158, v159, v160, v161, v162, v163, u164, u165, u166, u167, u168, u169, u170, u171, u172, u173, u174, u175, u176, u177, u178, u179, u180, u181, u182, u183, u184, u185, u186, u187, u188, u189, u190, .bool false, v192, v193, v194, v195, v196, v197, v198, v199, v200, v201, v202, v203, v204, v205, v206, v207, v208, v209, v210, v211, v212, v213, v214, v215, v216, v217, v218, v219, v220, v221, v222, v223, v224, v225, v226], []⟩ wx) :
    (Code.region 18 #[{ dst := some 164, op := Op.move (Operand.tmp 7), type := 4, pos := "laws.go:588", after := #[], guard := none },
      { dst := some 165, op := Op.move (Operand.tmp 164), type := 4, pos := "laws.go:588", after := #[{ on := 0, ground := Ground.data }], guard := none },
      { dst := some 166, op := Op.load 28 (Operand.tmp 6), type := 28, pos := "laws.go:588", after := #[{ on := 1, ground := Ground.guard }], guard := some (1, true) },
      { dst := some 167, op := Op.call { callee := Callee.value (Operand.func 28), args := #[Operand.tmp 166], argTypes := #[28] }, type := 4, pos := "laws.go:588", after := #[{ on := 2, ground := Ground.data }, { on := 1, ground := Ground.chain }, { on := 1, ground := Ground.guard }], guard := some (1, true) },
      { dst := some 168, op := Op.unOp UnOp.not 4 (Operand.tmp 167), type := 4, pos := "laws.go:588", after := #[{ on := 3, ground := Ground.data }, { on := 1, ground := Ground.guard }], guard := some (1, true) },
      { dst := some 169, op := Op.move (Operand.tmp 168), type := 4, pos := "laws.go:588", after := #[{ on := 4, ground := Ground.data }, { on := 3, ground := Ground.chain }, { on := 1, ground := Ground.guard }], guard := some (1, true) },
      { dst := some 170, op := Op.load 28 (Operand.tmp 6), type := 28, pos := "laws.go:588", after := #[{ on := 5, ground := Ground.guard }], guard := some (5, false) },
      { dst := some 171, op := Op.call { callee := Callee.value (Operand.func 7), args := #[Operand.tmp 170], argTypes := #[28] }, type := 22, pos := "laws.go:588", after := #[{ on := 6, ground := Ground.data }, { on := 5, ground := Ground.chain }, { on := 5, ground := Ground.guard }], guard := some (5, false) },
      { dst := some 172, op := Op.move (Operand.tmp 5), type := 22, pos := "laws.go:588", after := #[{ on := 5, ground := Ground.guard }], guard := some (5, false) },
      { dst := some 173, op := Op.call { callee := Callee.value (Operand.func 19), args := #[Operand.tmp 171, Operand.tmp 172], argTypes := #[22, 22] }, type := 4, pos := "laws.go:588", after := #[{ on := 7, ground := Ground.data }, { on := 8, ground := Ground.data }, { on := 7, ground := Ground.chain }, { on := 5, ground := Ground.guard }], guard := some (5, false) },
      { dst := some 174, op := Op.unOp UnOp.not 4 (Operand.tmp 173), type := 4, pos := "laws.go:588", after := #[{ on := 9, ground := Ground.data }, { on := 5, ground := Ground.guard }], guard := some (5, false) },
      { dst := some 175, op := Op.pick (Operand.tmp 169) (Operand.const (Value.bool true)) (Operand.tmp 174), type := 4, pos := "laws.go:588", after := #[{ on := 5, ground := Ground.data }, { on := 10, ground := Ground.data }, { on := 1, ground := Ground.guard }], guard := some (1, true) },
      { dst := some 176, op := Op.pick (Operand.tmp 165) (Operand.tmp 175) (Operand.const (Value.bool false)), type := 4, pos := "laws.go:588", after := #[{ on := 1, ground := Ground.data }, { on := 11, ground := Ground.data }], guard := none },
      { dst := some 177, op := Op.move (Operand.tmp 176), type := 4, pos := "laws.go:588", after := #[{ on := 12, ground := Ground.data }, { on := 9, ground := Ground.chain }], guard := none },
      { dst := some 178, op := Op.move (Operand.tmp 16), type := 4, pos := "laws.go:588", after := #[{ on := 13, ground := Ground.guard }], guard := some (13, false) },
      { dst := some 179, op := Op.move (Operand.tmp 178), type := 4, pos := "laws.go:588", after := #[{ on := 14, ground := Ground.data }, { on := 13, ground := Ground.chain }, { on := 13, ground := Ground.guard }], guard := some (13, false) },
      { dst := some 180, op := Op.move (Operand.tmp 12), type := 22, pos := "laws.go:588", after := #[{ on := 15, ground := Ground.guard }], guard := some (15, true) },
      { dst := some 181, op := Op.move (Operand.tmp 13), type := 3, pos := "laws.go:588", after := #[{ on := 15, ground := Ground.guard }], guard := some (15, true) },
      { dst := some 182, op := Op.slice 22 (Operand.tmp 180) none (some (Operand.tmp 181)) none, type := 22, pos := "laws.go:588", after := #[{ on := 16, ground := Ground.data }, { on := 17, ground := Ground.data }, { on := 15, ground := Ground.guard }], guard := some (15, true) },
      { dst := some 183, op := Op.load 26 (Operand.tmp 14), type := 26, pos := "laws.go:588", after := #[{ on := 15, ground := Ground.guard }], guard := some (15, true) },
      { dst := some 184, op := Op.call { callee := Callee.value (Operand.func 22), args := #[Operand.tmp 182, Operand.tmp 183], argTypes := #[22, 26] }, type := 22, pos := "laws.go:588", after := #[{ on := 18, ground := Ground.data }, { on := 19, ground := Ground.data }, { on := 15, ground := Ground.chain }, { on := 15, ground := Ground.guard }], guard := some (15, true) },
      { dst := some 185, op := Op.move (Operand.tmp 12), type := 22, pos := "laws.go:588", after := #[{ on := 15, ground := Ground.guard }], guard := some (15, true) },
      { dst := some 186, op := Op.move (Operand.tmp 15), type := 3, pos := "laws.go:588", after := #[{ on := 15, ground := Ground.guard }], guard := some (15, true) },
      { dst := some 187, op := Op.slice 22 (Operand.tmp 185) none (some (Operand.tmp 186)) none, type := 22, pos := "laws.go:588", after := #[{ on := 21, ground := Ground.data }, { on := 22, ground := Ground.data }, { on := 15, ground := Ground.guard }], guard := some (15, true) },
      { dst := some 188, op := Op.call { callee := Callee.value (Operand.func 19), args := #[Operand.tmp 184, Operand.tmp 187], argTypes := #[22, 22] }, type := 4, pos := "laws.go:588", after := #[{ on := 20, ground := Ground.data }, { on := 23, ground := Ground.data }, { on := 20, ground := Ground.chain }, { on := 15, ground := Ground.guard }], guard := some (15, true) },
      { dst := some 189, op := Op.unOp UnOp.not 4 (Operand.tmp 188), type := 4, pos := "laws.go:588", after := #[{ on := 24, ground := Ground.data }, { on := 15, ground := Ground.guard }], guard := some (15, true) },
      { dst := some 190, op := Op.pick (Operand.tmp 179) (Operand.tmp 189) (Operand.const (Value.bool false)), type := 4, pos := "laws.go:588", after := #[{ on := 15, ground := Ground.data }, { on := 25, ground := Ground.data }, { on := 13, ground := Ground.guard }], guard := some (13, false) },
      { dst := some 191, op := Op.pick (Operand.tmp 177) (Operand.const (Value.bool true)) (Operand.tmp 190), type := 4, pos := "laws.go:588", after := #[{ on := 13, ground := Ground.data }, { on := 26, ground := Ground.data }], guard := none }] true).wp Tryd.prog Q ⟨#[v0, v1, v2, v3, v4, v5, v6, .bool false, v8, v9, v10, v11, .slice x_q n_q c_q, .int .i64 (ii : Nat), .pointer (some ⟨bm, 0, none⟩), .int .i64 (jj : Nat), .bool true, v17, v18, v19, v20, v21, v22, v23, v24, v25, v26, v27, v28, v29, v30, v31, v32, v33, v34, v35, v36, v37, v38, v39, v40, v41, v42, v43, v44, v45, v46, v47, v48, v49, v50, v51, v52, v53, v54, v55, v56, v57, v58, v59, v60, v61, v62, v63, v64, v65, v66, v67, v68, v69, v70, v71, v72, v73, v74, v75, v76, v77, v78, v79, v80, v81, v82, v83, v84, v85, v86, v87, v88, v89, v90, v91, v92, v93, v94, v95, v96, v97, v98, v99, v100, v101, v102, v103, v104, v105, v106, v107, v108, v109, v110, v111, v112, v113, v114, v115, v116, v117, v118, v119, v120, v121, v122, v123, v124, v125, v126, v127, v128, v129, v130, v131, v132, v133, v134, v135, v136, v137, v138, v139, v140, v141, v142, v143, v144, v145, v146, v147, v148, v149, v150, v151, v152, v153, v154, v155, v156, v157, v158, v159, v160, v161, v162, v163, v164, v165, v166, v167, v168, v169, v170, v171, v172, v173, v174, v175, v176, v177, v178, v179, v180, v181, v182, v183, v184, v185, v186, v187, v188, v189, v190, v191, v192, v193, v194, v195, v196, v197, v198, v199, v200, v201, v202, v203, v204, v205, v206, v207, v208, v209, v210, v211, v212, v213, v214, v215, v216, v217, v218, v219, v220, v221, v222, v223, v224, v225, v226], []⟩ w := by
  have HQ := Lib.hid hQ; clear hQ
  have hdr : Below w.heap.size w w.drew := (Below.refl _ _).drew
  have Hd_m := Lib.hid (H_m.out.on hdr)
  have Hd_q := Lib.hid (H_q.out.on hdr)
  replace K0_m := Lib.hid ((hdr.cell (cell_lt K0_m.out)).trans K0_m.out)
  have BB := Lib.hid hdr; clear hdr
  refine wp_region_noPanic ?_
  refine wp_region_held_drew (S := (fun w' => w'.cell? ⟨bm, 0, none⟩ = some (.slice x_m n_m c_m))) (by kernel_rfl) ?_ (fun hHeld => ?_)
  · exact K0_m.out
  refine wpAnyH_take (i := 0) (oi := { dst := some 164, op := Op.move (Operand.tmp 7), type := 4, pos := "laws.go:588", after := #[], guard := none }) (v := ?_) rfl (by kernel_rfl) (by kernel_rfl) (by kernel_rfl) (fun _ _ _ h => h) (Or.inl ⟨by rfl, ?_⟩) (by assumption) ?_
  rotate_left
  · intro w' hSw; (try dsimp only at hSw); first | (go_simp; done) | (go_simp; with_reducible rfl)
  (try simp only [Act.put, List.setIfInBounds_toArray, List.set_cons_zero, List.set_cons_succ])
  refine wpAnyH_take (i := 1) (oi := { dst := some 165, op := Op.move (Operand.tmp 164), type := 4, pos := "laws.go:588", after := #[{ on := 0, ground := Ground.data }], guard := none }) (v := ?_) rfl (by kernel_rfl) (by kernel_rfl) (by kernel_rfl) (fun _ _ _ h => h) (Or.inl ⟨by rfl, ?_⟩) (by assumption) ?_
  rotate_left
  · intro w' hSw; (try dsimp only at hSw); first | (go_simp; done) | (go_simp; with_reducible rfl)
  (try simp only [Act.put, List.setIfInBounds_toArray, List.set_cons_zero, List.set_cons_succ])
  refine wpAnyH_take (i := 2) (oi := { dst := some 166, op := Op.load 28 (Operand.tmp 6), type := 28, pos := "laws.go:588", after := #[{ on := 1, ground := Ground.guard }], guard := some (1, true) }) (v := undef) rfl (by kernel_rfl) (by kernel_rfl) (by kernel_rfl) (fun _ _ _ h => h) (Or.inr ⟨by rfl, rfl⟩) (by assumption) ?_
  (try simp only [Act.put, List.setIfInBounds_toArray, List.set_cons_zero, List.set_cons_succ])
  refine wpAnyH_take (i := 3) (oi := { dst := some 167, op := Op.call { callee := Callee.value (Operand.func 28), args := #[Operand.tmp 166], argTypes := #[28] }, type := 4, pos := "laws.go:588", after := #[{ on := 2, ground := Ground.data }, { on := 1, ground := Ground.chain }, { on := 1, ground := Ground.guard }], guard := some (1, true) }) (v := undef) rfl (by kernel_rfl) (by kernel_rfl) (by kernel_rfl) (fun _ _ _ h => h) (Or.inr ⟨by rfl, rfl⟩) (by assumption) ?_
  (try simp only [Act.put, List.setIfInBounds_toArray, List.set_cons_zero, List.set_cons_succ])
  refine wpAnyH_take (i := 4) (oi := { dst := some 168, op := Op.unOp UnOp.not 4 (Operand.tmp 167), type := 4, pos := "laws.go:588", after := #[{ on := 3, ground := Ground.data }, { on := 1, ground := Ground.guard }], guard := some (1, true) }) (v := undef) rfl (by kernel_rfl) (by kernel_rfl) (by kernel_rfl) (fun _ _ _ h => h) (Or.inr ⟨by rfl, rfl⟩) (by assumption) ?_
  (try simp only [Act.put, List.setIfInBounds_toArray, List.set_cons_zero, List.set_cons_succ])
  refine wpAnyH_take (i := 5) (oi := { dst := some 169, op := Op.move (Operand.tmp 168), type := 4, pos := "laws.go:588", after := #[{ on := 4, ground := Ground.data }, { on := 3, ground := Ground.chain }, { on := 1, ground := Ground.guard }], guard := some (1, true) }) (v := undef) rfl (by kernel_rfl) (by kernel_rfl) (by kernel_rfl) (fun _ _ _ h => h) (Or.inr ⟨by rfl, rfl⟩) (by assumption) ?_
  (try simp only [Act.put, List.setIfInBounds_toArray, List.set_cons_zero, List.set_cons_succ])
  refine wpAnyH_take (i := 6) (oi := { dst := some 170, op := Op.load 28 (Operand.tmp 6), type := 28, pos := "laws.go:588", after := #[{ on := 5, ground := Ground.guard }], guard := some (5, false) }) (v := undef) rfl (by kernel_rfl) (by kernel_rfl) (by kernel_rfl) (fun _ _ _ h => h) (Or.inr ⟨by rfl, rfl⟩) (by assumption) ?_
  (try simp only [Act.put, List.setIfInBounds_toArray, List.set_cons_zero, List.set_cons_succ])
  refine wpAnyH_take (i := 7) (oi := { dst := some 171, op := Op.call { callee := Callee.value (Operand.func 7), args := #[Operand.tmp 170], argTypes := #[28] }, type := 22, pos := "laws.go:588", after := #[{ on := 6, ground := Ground.data }, { on := 5, ground := Ground.chain }, { on := 5, ground := Ground.guard }], guard := some (5, false) }) (v := undef) rfl (by kernel_rfl) (by kernel_rfl) (by kernel_rfl) (fun _ _ _ h => h) (Or.inr ⟨by rfl, rfl⟩) (by assumption) ?_
  (try simp only [Act.put, List.setIfInBounds_toArray, List.set_cons_zero, List.set_cons_succ])
  refine wpAnyH_take (i := 8) (oi := { dst := some 172, op := Op.move (Operand.tmp 5), type := 22, pos := "laws.go:588", after := #[{ on := 5, ground := Ground.guard }], guard := some (5, false) }) (v := undef) rfl (by kernel_rfl) (by kernel_rfl) (by kernel_rfl) (fun _ _ _ h => h) (Or.inr ⟨by rfl, rfl⟩) (by assumption) ?_
  (try simp only [Act.put, List.setIfInBounds_toArray, List.set_cons_zero, List.set_cons_succ])
  refine wpAnyH_take (i := 9) (oi := { dst := some 173, op := Op.call { callee := Callee.value (Operand.func 19), args := #[Operand.tmp 171, Operand.tmp 172], argTypes := #[22, 22] }, type := 4, pos := "laws.go:588", after := #[{ on := 7, ground := Ground.data }, { on := 8, ground := Ground.data }, { on := 7, ground := Ground.chain }, { on := 5, ground := Ground.guard }], guard := some (5, false) }) (v := undef) rfl (by kernel_rfl) (by kernel_rfl) (by kernel_rfl) (fun _ _ _ h => h) (Or.inr ⟨by rfl, rfl⟩) (by assumption) ?_
  (try simp only [Act.put, List.setIfInBounds_toArray, List.set_cons_zero, List.set_cons_succ])
  refine wpAnyH_take (i := 10) (oi := { dst := some 174, op := Op.unOp UnOp.not 4 (Operand.tmp 173), type := 4, pos := "laws.go:588", after := #[{ on := 9, ground := Ground.data }, { on := 5, ground := Ground.guard }], guard := some (5, false) }) (v := undef) rfl (by kernel_rfl) (by kernel_rfl) (by kernel_rfl) (fun _ _ _ h => h) (Or.inr ⟨by rfl, rfl⟩) (by assumption) ?_
  (try simp only [Act.put, List.setIfInBounds_toArray, List.set_cons_zero, List.set_cons_succ])
  refine wpAnyH_take (i := 11) (oi := { dst := some 175, op := Op.pick (Operand.tmp 169) (Operand.const (Value.bool true)) (Operand.tmp 174), type := 4, pos := "laws.go:588", after := #[{ on := 5, ground := Ground.data }, { on := 10, ground := Ground.data }, { on := 1, ground := Ground.guard }], guard := some (1, true) }) (v := undef) rfl (by kernel_rfl) (by kernel_rfl) (by kernel_rfl) (fun _ _ _ h => h) (Or.inr ⟨by rfl, rfl⟩) (by assumption) ?_
  (try simp only [Act.put, List.setIfInBounds_toArray, List.set_cons_zero, List.set_cons_succ])
  refine wpAnyH_take (i := 12) (oi := { dst := some 176, op := Op.pick (Operand.tmp 165) (Operand.tmp 175) (Operand.const (Value.bool false)), type := 4, pos := "laws.go:588", after := #[{ on := 1, ground := Ground.data }, { on := 11, ground := Ground.data }], guard := none }) (v := ?_) rfl (by kernel_rfl) (by kernel_rfl) (by kernel_rfl) (fun _ _ _ h => h) (Or.inl ⟨by rfl, ?_⟩) (by assumption) ?_
  rotate_left
  · intro w' hSw; (try dsimp only at hSw); first | (go_simp; done) | (go_simp; with_reducible rfl)
  (try simp only [Act.put, List.setIfInBounds_toArray, List.set_cons_zero, List.set_cons_succ])
  refine wpAnyH_take (i := 13) (oi := { dst := some 177, op := Op.move (Operand.tmp 176), type := 4, pos := "laws.go:588", after := #[{ on := 12, ground := Ground.data }, { on := 9, ground := Ground.chain }], guard := none }) (v := ?_) rfl (by kernel_rfl) (by kernel_rfl) (by kernel_rfl) (fun _ _ _ h => h) (Or.inl ⟨by rfl, ?_⟩) (by assumption) ?_
  rotate_left
  · intro w' hSw; (try dsimp only at hSw); first | (go_simp; done) | (go_simp; with_reducible rfl)
  (try simp only [Act.put, List.setIfInBounds_toArray, List.set_cons_zero, List.set_cons_succ])
  refine wpAnyH_take (i := 14) (oi := { dst := some 178, op := Op.move (Operand.tmp 16), type := 4, pos := "laws.go:588", after := #[{ on := 13, ground := Ground.guard }], guard := some (13, false) }) (v := ?_) rfl (by kernel_rfl) (by kernel_rfl) (by kernel_rfl) (fun _ _ _ h => h) (Or.inl ⟨by rfl, ?_⟩) (by assumption) ?_
  rotate_left
  · intro w' hSw; (try dsimp only at hSw); first | (go_simp; done) | (go_simp; with_reducible rfl)
  (try simp only [Act.put, List.setIfInBounds_toArray, List.set_cons_zero, List.set_cons_succ])
  refine wpAnyH_take (i := 15) (oi := { dst := some 179, op := Op.move (Operand.tmp 178), type := 4, pos := "laws.go:588", after := #[{ on := 14, ground := Ground.data }, { on := 13, ground := Ground.chain }, { on := 13, ground := Ground.guard }], guard := some (13, false) }) (v := ?_) rfl (by kernel_rfl) (by kernel_rfl) (by kernel_rfl) (fun _ _ _ h => h) (Or.inl ⟨by rfl, ?_⟩) (by assumption) ?_
  rotate_left
  · intro w' hSw; (try dsimp only at hSw); first | (go_simp; done) | (go_simp; with_reducible rfl)
  (try simp only [Act.put, List.setIfInBounds_toArray, List.set_cons_zero, List.set_cons_succ])
  refine wpAnyH_take (i := 16) (oi := { dst := some 180, op := Op.move (Operand.tmp 12), type := 22, pos := "laws.go:588", after := #[{ on := 15, ground := Ground.guard }], guard := some (15, true) }) (v := ?_) rfl (by kernel_rfl) (by kernel_rfl) (by kernel_rfl) (fun _ _ _ h => h) (Or.inl ⟨by rfl, ?_⟩) (by assumption) ?_
  rotate_left
  · intro w' hSw; (try dsimp only at hSw); first | (go_simp; done) | (go_simp; with_reducible rfl)
  (try simp only [Act.put, List.setIfInBounds_toArray, List.set_cons_zero, List.set_cons_succ])
  refine wpAnyH_take (i := 17) (oi := { dst := some 181, op := Op.move (Operand.tmp 13), type := 3, pos := "laws.go:588", after := #[{ on := 15, ground := Ground.guard }], guard := some (15, true) }) (v := ?_) rfl (by kernel_rfl) (by kernel_rfl) (by kernel_rfl) (fun _ _ _ h => h) (Or.inl ⟨by rfl, ?_⟩) (by assumption) ?_
  rotate_left
  · intro w' hSw; (try dsimp only at hSw); first | (go_simp; done) | (go_simp; with_reducible rfl)
  (try simp only [Act.put, List.setIfInBounds_toArray, List.set_cons_zero, List.set_cons_succ])
  refine wpAnyH_take (i := 18) (oi := { dst := some 182, op := Op.slice 22 (Operand.tmp 180) none (some (Operand.tmp 181)) none, type := 22, pos := "laws.go:588", after := #[{ on := 16, ground := Ground.data }, { on := 17, ground := Ground.data }, { on := 15, ground := Ground.guard }], guard := some (15, true) }) (v := ?_) rfl (by kernel_rfl) (by kernel_rfl) (by kernel_rfl) (fun _ _ _ h => h) (Or.inl ⟨by rfl, ?_⟩) (by assumption) ?_
  rotate_left
  · intro w' hSw; (try dsimp only at hSw); first | (go_simp; done) | (go_simp; with_reducible rfl)
  (try simp only [Act.put, List.setIfInBounds_toArray, List.set_cons_zero, List.set_cons_succ])
  refine wpAnyH_take (i := 19) (oi := { dst := some 183, op := Op.load 26 (Operand.tmp 14), type := 26, pos := "laws.go:588", after := #[{ on := 15, ground := Ground.guard }], guard := some (15, true) }) (v := ?_) rfl (by kernel_rfl) (by kernel_rfl) (by kernel_rfl) (fun _ _ _ h => h) (Or.inl ⟨by rfl, ?_⟩) (by assumption) ?_
  rotate_left
  · intro w' hSw; (try dsimp only at hSw); first | (go_simp; done) | (go_simp; with_reducible rfl)
  (try simp only [Act.put, List.setIfInBounds_toArray, List.set_cons_zero, List.set_cons_succ])
  refine wpAnyH_take (i := 21) (oi := { dst := some 185, op := Op.move (Operand.tmp 12), type := 22, pos := "laws.go:588", after := #[{ on := 15, ground := Ground.guard }], guard := some (15, true) }) (v := ?_) rfl (by kernel_rfl) (by kernel_rfl) (by kernel_rfl) (fun _ _ _ h => h) (Or.inl ⟨by rfl, ?_⟩) (by assumption) ?_
  rotate_left
  · intro w' hSw; (try dsimp only at hSw); first | (go_simp; done) | (go_simp; with_reducible rfl)
  (try simp only [Act.put, List.setIfInBounds_toArray, List.set_cons_zero, List.set_cons_succ])
  refine wpAnyH_take (i := 22) (oi := { dst := some 186, op := Op.move (Operand.tmp 15), type := 3, pos := "laws.go:588", after := #[{ on := 15, ground := Ground.guard }], guard := some (15, true) }) (v := ?_) rfl (by kernel_rfl) (by kernel_rfl) (by kernel_rfl) (fun _ _ _ h => h) (Or.inl ⟨by rfl, ?_⟩) (by assumption) ?_
  rotate_left
  · intro w' hSw; (try dsimp only at hSw); first | (go_simp; done) | (go_simp; with_reducible rfl)
  (try simp only [Act.put, List.setIfInBounds_toArray, List.set_cons_zero, List.set_cons_succ])
  refine wpAnyH_take (i := 23) (oi := { dst := some 187, op := Op.slice 22 (Operand.tmp 185) none (some (Operand.tmp 186)) none, type := 22, pos := "laws.go:588", after := #[{ on := 21, ground := Ground.data }, { on := 22, ground := Ground.data }, { on := 15, ground := Ground.guard }], guard := some (15, true) }) (v := ?_) rfl (by kernel_rfl) (by kernel_rfl) (by kernel_rfl) (fun _ _ _ h => h) (Or.inl ⟨by rfl, ?_⟩) (by assumption) ?_
  rotate_left
  · intro w' hSw; (try dsimp only at hSw); first | (go_simp; done) | (go_simp; with_reducible rfl)
  (try simp only [Act.put, List.setIfInBounds_toArray, List.set_cons_zero, List.set_cons_succ])
  refine wpAnyH_ready (rs := [20]) (by kernel_rfl) (by simp) ?_
  refine AllReadyH.cons (o := { dst := some 184, op := Op.call { callee := Callee.value (Operand.func 22), args := #[Operand.tmp 182, Operand.tmp 183], argTypes := #[22, 26] }, type := 22, pos := "laws.go:588", after := #[{ on := 18, ground := Ground.data }, { on := 19, ground := Ground.data }, { on := 15, ground := Ground.chain }, { on := 15, ground := Ground.guard }], guard := some (15, true) }) rfl (fun K hK => ?_) AllReadyH.nil
  go_simp
  refine (implAppendNameK _ _ (eq.take ii) lm _ (kB_upto Hd_q.out j3) Hd_m.out (by rw [List.length_take]; omega) (by omega)).mono ?_
  rintro e wx ⟨U_s, rfl, o_s, hb⟩
  obtain ⟨x_s, n_s, c_s, rfl, o_s⟩ := kB_shape o_s
  have HS := Lib.hid o_s.at; clear o_s
  replace Hd_m := Lib.hid (Hd_m.out.on hb)
  replace Hd_q := Lib.hid (Hd_q.out.on hb)
  replace K0_m := Lib.hid ((hb.cell (cell_lt K0_m.out)).trans K0_m.out)
  replace BB := Lib.hid (BB.out.trans (hb.mono BB.out.size)); clear hb
  (try go_wp2_with fail)
  clear hHeld
  refine hK.out _ _ ?_ (fun hHeld => ?_)
  · (try dsimp only); exact K0_m.out
  clear hK K
  (try simp only [Act.put, List.setIfInBounds_toArray, List.set_cons_zero, List.set_cons_succ])
  refine wpAnyH_ready (rs := [24]) (by kernel_rfl) (by simp) ?_
  refine AllReadyH.cons (o := { dst := some 188, op := Op.call { callee := Callee.value (Operand.func 19), args := #[Operand.tmp 184, Operand.tmp 187], argTypes := #[22, 22] }, type := 4, pos := "laws.go:588", after := #[{ on := 20, ground := Ground.data }, { on := 23, ground := Ground.data }, { on := 20, ground := Ground.chain }, { on := 15, ground := Ground.guard }], guard := some (15, true) }) rfl (fun K hK => ?_) AllReadyH.nil
  go_simp
  refine (sameBV HA.out HS.out (kB_upto Hd_q.out j4) (by rw [HA.out, List.length_take]; omega)).mono ?_
  rintro e wx ⟨rfl, hb⟩
  clear HS
  replace Hd_m := Lib.hid (Hd_m.out.on hb)
  replace Hd_q := Lib.hid (Hd_q.out.on hb)
  replace K0_m := Lib.hid ((hb.cell (cell_lt K0_m.out)).trans K0_m.out)
  replace BB := Lib.hid (BB.out.trans (hb.mono BB.out.size)); clear hb
  (try go_wp2_with fail)
  clear hHeld
  refine hK.out _ _ ?_ (fun hHeld => ?_)
  · (try dsimp only); exact K0_m.out
  clear hK K
  (try simp only [Act.put, List.setIfInBounds_toArray, List.set_cons_zero, List.set_cons_succ])
  refine wpAnyH_take (i := 25) (oi := { dst := some 189, op := Op.unOp UnOp.not 4 (Operand.tmp 188), type := 4, pos := "laws.go:588", after := #[{ on := 24, ground := Ground.data }, { on := 15, ground := Ground.guard }], guard := some (15, true) }) (v := ?_) rfl (by kernel_rfl) (by kernel_rfl) (by kernel_rfl) (fun _ _ _ h => h) (Or.inl ⟨by rfl, ?_⟩) (by assumption) ?_
  rotate_left
  · intro w' hSw; (try dsimp only at hSw); first | (go_simp; done) | (go_simp; with_reducible rfl)
  (try simp only [Act.put, List.setIfInBounds_toArray, List.set_cons_zero, List.set_cons_succ])
  refine wpAnyH_take (i := 26) (oi := { dst := some 190, op := Op.pick (Operand.tmp 179) (Operand.tmp 189) (Operand.const (Value.bool false)), type := 4, pos := "laws.go:588", after := #[{ on := 15, ground := Ground.data }, { on := 25, ground := Ground.data }, { on := 13, ground := Ground.guard }], guard := some (13, false) }) (v := ?_) rfl (by kernel_rfl) (by kernel_rfl) (by kernel_rfl) (fun _ _ _ h => h) (Or.inl ⟨by rfl, ?_⟩) (by assumption) ?_
  rotate_left
  · intro w' hSw; (try dsimp only at hSw); first | (go_simp; done) | (go_simp; with_reducible rfl)
  (try simp only [Act.put, List.setIfInBounds_toArray, List.set_cons_zero, List.set_cons_succ])
  refine wpAnyH_take (i := 27) (oi := { dst := some 191, op := Op.pick (Operand.tmp 177) (Operand.const (Value.bool true)) (Operand.tmp 190), type := 4, pos := "laws.go:588", after := #[{ on := 13, ground := Ground.data }, { on := 26, ground := Ground.data }], guard := none }) (v := ?_) rfl (by kernel_rfl) (by kernel_rfl) (by kernel_rfl) (fun _ _ _ h => h) (Or.inl ⟨by rfl, ?_⟩) (by assumption) ?_
  rotate_left
  · intro w' hSw; (try dsimp only at hSw); first | (go_simp; done) | (go_simp; with_reducible rfl)
  (try simp only [Act.put, List.setIfInBounds_toArray, List.set_cons_zero, List.set_cons_succ])
  refine wpAnyH_done (by kernel_rfl) ?_ _
  exact NoPanic.normal (HQ.out _ _ _ _ _ _ _ _ _ _ _ _ _ _ _ _ _ _ _ _ _ _ _ _ _ _ _ _ BB.out)

set_option maxRecDepth 100000 in
set_option maxHeartbeats 4000000 in
theorem regX7_10 {Q : Exit → Act → World → Prop} {v0 v1 v2 v3 v4 v8 v9 v10 v11 v12 v13 v14 v15 v17 v18 v19 v20 v21 v22 v23 v24 v25 v26 v27 v28 v29 v30 v31 v32 v33 v34 v35 v36 v37 v38 v39 v40 v41 v42 v43 v44 v45 v46 v47 v48 v49 v50 v51 v52 v53 v54 v55 v56 v57 v58 v59 v60 v61 v62 v63 v64 v65 v66 v67 v68 v69 v70 v71 v72 v73 v74 v75 v76 v77 v78 v79 v80 v81 v82 v83 v84 v85 v86 v87 v88 v89 v90 v91 v92 v93 v94 v95 v96 v97 v98 v99 v100 v101 v102 v103 v104 v105 v106 v107 v108 v109 v110 v111 v112 v113 v114 v115 v116 v117 v118 v119 v120 v121 v122 v123 v124 v125 v126 v127 v128 v129 v130 v131 v132 v133 v134 v135 v136 v137 v138 v139 v140 v141 v142 v143 v144 v145 v146 v147 v148 v149 v150 v151 v152 v153 v154 v155 v156 v157 v158 v159 v160 v161 v162 v163 v164 v165 v166 v167 v168 v169 v170 v171 v172 v173 v174 v175 v176 v177 v178 v179 v180 v181 v182 v183 v184 v185 v186 v187 v188 v189 v190 v191 v192 v193 v194 v195 v196 v197 v198 v199 v200 v201 v202 v203 v204 v205 v206 v207 v208 v209 v210 v211 v212 v213 v214 v215 v216 v217 v218 v219 v220 v221 v222 v223 v224 v225 v226 : Value} {w : World} {bx : Nat} {xx : Wt} {ec : List Int} {x_x : Option Addr} {n_x c_x : Nat} {x_c : Option Addr} {n_c c_c : Nat} (K0_x : Hid (w.cell? ⟨bx, 0, none⟩ = some (.slice x_x n_x c_x))) (K1_x : Hid (w.cell? ⟨bx, 1, none⟩ = some (.int .i64 xx.2.1))) (K2_x : Hid (w.cell? ⟨bx, 2, none⟩ = some (.int .i64 xx.2.2.1))) (K3_x : Hid (w.cell? ⟨bx, 3, none⟩ = some (.int .i64 xx.2.2.2))) (H_x : Hid (kW.At w (.agg #[.slice x_x n_x c_x, .int .i64 xx.2.1, .int .i64 xx.2.2.1, .int .i64 xx.2.2.2]) xx)) (H_c : Hid (kB.At w (.slice x_c n_c c_c) ec)) (HV : Hid (validW xx = true)) (HE : Hid (encW xx = ec)) (h2 : bulk xx.1 ≤ 1000) (h3 : ec.length ≤ 1000000)
    (hQ : ∀ (u164 u165 u166 u167 u168 u169 u170 u171 u172 u173 u174 u175 u176 u177 u178 u179 u180 u181 u182 u183 u184 u185 u186 u187 u188 u189 u190 : Value) (wx : World), Below w.heap.size w wx → Q .normal ⟨#[v0, v1, v2, v3, v4, .slice x_c n_c c_c, .pointer (some ⟨bx, 0, none⟩), .bool true, v8, v9, v10, v11, v12, v13, v14, v15, .bool false, v17, v18, v19, v20, v21, v22, v23, v24, v25, v26, v27, v28, v29, v30, v31, v32, v33, v34, v35, v36, v37, v38, v39, v40, v41, v42, v43, v44, v45, v46, v47, v48, v49, v50, v51, v52, v53, v54, v55, v56, v57, v58, v59, v60, v61, v62, v63, v64, v65, v66, v67, v68, v69, v70, v71, v72, v73, v74, v75, v76, v77, v78, v79, v80, v81, v82, v83, v84, v85, v86, v87, v88, v89, v90, v91, v92, v93, v94, v95, v96, v97, v98, v99, v100, v101, v102, v103, v104, v105, v106, v107, v108, v109, v110, v111, v112, v113, v114, v115, v116, v117, v118, v119, v120, v121, v122, v123, v124, v125, v126, v127, v128, v129, v130, v131, v132, v133, v134, v135, v136, v137, v138, v139, v140, v141, v142, v143, v144, v145, v146, v147, v148, v149, v150, v151, v152, v153, v154, v155, v156, v157, v158, v159, v160, v161, v162, v163, u164, u165, u166, u167, u168, u169, u170, u171, u172, u173, u174, u175, u176, u177, u178, u179, u180, u181, u182, u183, u184, u185, u186, u187, u188, u189, u190, .bool false, v192, v193, v194, v195, v196, v197, v198, v199, v200, v201, v202, v203, v204, v205, v206, v207, v208, v209, v210, v211, v212, v213, v214, v215, v216, v217, v218, v219, v220, v221, v222, v223, v224, v225, v226], []⟩ wx) :
    (Code.region 18 #[{ dst := some 164, op := Op.move (Operand.tmp 7), type := 4, pos := "laws.go:588", after := #[], guard := none },
      { dst := some 165, op := Op.move (Operand.tmp 164), type := 4, pos := "laws.go:588", after := #[{ on := 0, ground := Ground.data }], guard := none },
      { dst := some 166, op := Op.load 28 (Operand.tmp 6), type := 28, pos := "laws.go:588", after := #[{ on := 1, ground := Ground.guard }], guard := some (1, true) },
      { dst := some 167, op := Op.call { callee := Callee.value (Operand.func 28), args := #[Operand.tmp 166], argTypes := #[28] }, type := 4, pos := "laws.go:588", after := #[{ on := 2, ground := Ground.data }, { on := 1, ground := Ground.chain }, { on := 1, ground := Ground.guard }], guard := some (1, true) },
      { dst := some 168, op := Op.unOp UnOp.not 4 (Operand.tmp 167), type := 4, pos := "laws.go:588", after := #[{ on := 3, ground := Ground.data }, { on := 1, ground := Ground.guard }], guard := some (1, true) },
      { dst := some 169, op := Op.move (Operand.tmp 168), type := 4, pos := "laws.go:588", after := #[{ on := 4, ground := Ground.data }, { on := 3, ground := Ground.chain }, { on := 1, ground := Ground.guard }], guard := some (1, true) },
      { dst := some 170, op := Op.load 28 (Operand.tmp 6), type := 28, pos := "laws.go:588", after := #[{ on := 5, ground := Ground.guard }], guard := some (5, false) },
      { dst := some 171, op := Op.call { callee := Callee.value (Operand.func 7), args := #[Operand.tmp 170], argTypes := #[28] }, type := 22, pos := "laws.go:588", after := #[{ on := 6, ground := Ground.data }, { on := 5, ground := Ground.chain }, { on := 5, ground := Ground.guard }], guard := some (5, false) },
      { dst := some 172, op := Op.move (Operand.tmp 5), type := 22, pos := "laws.go:588", after := #[{ on := 5, ground := Ground.guard }], guard := some (5, false) },
      { dst := some 173, op := Op.call { callee := Callee.value (Operand.func 19), args := #[Operand.tmp 171, Operand.tmp 172], argTypes := #[22, 22] }, type := 4, pos := "laws.go:588", after := #[{ on := 7, ground := Ground.data }, { on := 8, ground := Ground.data }, { on := 7, ground := Ground.chain }, { on := 5, ground := Ground.guard }], guard := some (5, false) },
      { dst := some 174, op := Op.unOp UnOp.not 4 (Operand.tmp 173), type := 4, pos := "laws.go:588", after := #[{ on := 9, ground := Ground.data }, { on := 5, ground := Ground.guard }], guard := some (5, false) },
      { dst := some 175, op := Op.pick (Operand.tmp 169) (Operand.const (Value.bool true)) (Operand.tmp 174), type := 4, pos := "laws.go:588", after := #[{ on := 5, ground := Ground.data }, { on := 10, ground := Ground.data }, { on := 1, ground := Ground.guard }], guard := some (1, true) },
      { dst := some 176, op := Op.pick (Operand.tmp 165) (Operand.tmp 175) (Operand.const (Value.bool false)), type := 4, pos := "laws.go:588", after := #[{ on := 1, ground := Ground.data }, { on := 11, ground := Ground.data }], guard := none },
      { dst := some 177, op := Op.move (Operand.tmp 176), type := 4, pos := "laws.go:588", after := #[{ on := 12, ground := Ground.data }, { on := 9, ground := Ground.chain }], guard := none },
      { dst := some 178, op := Op.move (Operand.tmp 16), type := 4, pos := "laws.go:588", after := #[{ on := 13, ground := Ground.guard }], guard := some (13, false) },
      { dst := some 179, op := Op.move (Operand.tmp 178), type := 4, pos := "laws.go:588", after := #[{ on := 14, ground := Ground.data }, { on := 13, ground := Ground.chain }, { on := 13, ground := Ground.guard }], guard := some (13, false) },
      { dst := some 180, op := Op.move (Operand.tmp 12), type := 22, pos := "laws.go:588", after := #[{ on := 15, ground := Ground.guard }], guard := some (15, true) },
      { dst := some 181, op := Op.move (Operand.tmp 13), type := 3, pos := "laws.go:588", after := #[{ on := 15, ground := Ground.guard }], guard := some (15, true) },
      { dst := some 182, op := Op.slice 22 (Operand.tmp 180) none (some (Operand.tmp 181)) none, type := 22, pos := "laws.go:588", after := #[{ on := 16, ground := Ground.data }, { on := 17, ground := Ground.data }, { on := 15, ground := Ground.guard }], guard := some (15, true) },
      { dst := some 183, op := Op.load 26 (Operand.tmp 14), type := 26, pos := "laws.go:588", after := #[{ on := 15, ground := Ground.guard }], guard := some (15, true) },
      { dst := some 184, op := Op.call { callee := Callee.value (Operand.func 22), args := #[Operand.tmp 182, Operand.tmp 183], argTypes := #[22, 26] }, type := 22, pos := "laws.go:588", after := #[{ on := 18, ground := Ground.data }, { on := 19, ground := Ground.data }, { on := 15, ground := Ground.chain }, { on := 15, ground := Ground.guard }], guard := some (15, true) },
      { dst := some 185, op := Op.move (Operand.tmp 12), type := 22, pos := "laws.go:588", after := #[{ on := 15, ground := Ground.guard }], guard := some (15, true) },
      { dst := some 186, op := Op.move (Operand.tmp 15), type := 3, pos := "laws.go:588", after := #[{ on := 15, ground := Ground.guard }], guard := some (15, true) },
      { dst := some 187, op := Op.slice 22 (Operand.tmp 185) none (some (Operand.tmp 186)) none, type := 22, pos := "laws.go:588", after := #[{ on := 21, ground := Ground.data }, { on := 22, ground := Ground.data }, { on := 15, ground := Ground.guard }], guard := some (15, true) },
      { dst := some 188, op := Op.call { callee := Callee.value (Operand.func 19), args := #[Operand.tmp 184, Operand.tmp 187], argTypes := #[22, 22] }, type := 4, pos := "laws.go:588", after := #[{ on := 20, ground := Ground.data }, { on := 23, ground := Ground.data }, { on := 20, ground := Ground.chain }, { on := 15, ground := Ground.guard }], guard := some (15, true) },
      { dst := some 189, op := Op.unOp UnOp.not 4 (Operand.tmp 188), type := 4, pos := "laws.go:588", after := #[{ on := 24, ground := Ground.data }, { on := 15, ground := Ground.guard }], guard := some (15, true) },
      { dst := some 190, op := Op.pick (Operand.tmp 179) (Operand.tmp 189) (Operand.const (Value.bool false)), type := 4, pos := "laws.go:588", after := #[{ on := 15, ground := Ground.data }, { on := 25, ground := Ground.data }, { on := 13, ground := Ground.guard }], guard := some (13, false) },
      { dst := some 191, op := Op.pick (Operand.tmp 177) (Operand.const (Value.bool true)) (Operand.tmp 190), type := 4, pos := "laws.go:588", after := #[{ on := 13, ground := Ground.data }, { on := 26, ground := Ground.data }], guard := none }] true).wp Tryd.prog Q ⟨#[v0, v1, v2, v3, v4, .slice x_c n_c c_c, .pointer (some ⟨bx, 0, none⟩), .bool true, v8, v9, v10, v11, v12, v13, v14, v15, .bool false, v17, v18, v19, v20, v21, v22, v23, v24, v25, v26, v27, v28, v29, v30, v31, v32, v33, v34, v35, v36, v37, v38, v39, v40, v41, v42, v43, v44, v45, v46, v47, v48, v49, v50, v51, v52, v53, v54, v55, v56, v57, v58, v59, v60, v61, v62, v63, v64, v65, v66, v67, v68, v69, v70, v71, v72, v73, v74, v75, v76, v77, v78, v79, v80, v81, v82, v83, v84, v85, v86, v87, v88, v89, v90, v91, v92, v93, v94, v95, v96, v97, v98, v99, v100, v101, v102, v103, v104, v105, v106, v107, v108, v109, v110, v111, v112, v113, v114, v115, v116, v117, v118, v119, v120, v121, v122, v123, v124, v125, v126, v127, v128, v129, v130, v131, v132, v133, v134, v135, v136, v137, v138, v139, v140, v141, v142, v143, v144, v145, v146, v147, v148, v149, v150, v151, v152, v153, v154, v155, v156, v157, v158, v159, v160, v161, v162, v163, v164, v165, v166, v167, v168, v169, v170, v171, v172, v173, v174, v175, v176, v177, v178, v179, v180, v181, v182, v183, v184, v185, v186, v187, v188, v189, v190, v191, v192, v193, v194, v195, v196, v197, v198, v199, v200, v201, v202, v203, v204, v205, v206, v207, v208, v209, v210, v211, v212, v213, v214, v215, v216, v217, v218, v219, v220, v221, v222, v223, v224, v225, v226], []⟩ w := by
  have HQ := Lib.hid hQ; clear hQ
  have hdr : Below w.heap.size w w.drew := (Below.refl _ _).drew
  have Hd_x := Lib.hid (H_x.out.on hdr)
  have Hd_c := Lib.hid (H_c.out.on hdr)
  replace K0_x := Lib.hid ((hdr.cell (cell_lt K0_x.out)).trans K0_x.out)
  replace K1_x := Lib.hid ((hdr.cell (cell_lt K1_x.out)).trans K1_x.out)
  replace K2_x := Lib.hid ((hdr.cell (cell_lt K2_x.out)).trans K2_x.out)
  replace K3_x := Lib.hid ((hdr.cell (cell_lt K3_x.out)).trans K3_x.out)
  have BB := Lib.hid hdr; clear hdr
  refine wp_region_noPanic ?_
  refine wp_region_held_drew (S := (fun w' => w'.cell? ⟨bx, 0, none⟩ = some (.slice x_x n_x c_x) ∧ w'.cell? ⟨bx, 1, none⟩ = some (.int .i64 xx.2.1) ∧ w'.cell? ⟨bx, 2, none⟩ = some (.int .i64 xx.2.2.1) ∧ w'.cell? ⟨bx, 3, none⟩ = some (.int .i64 xx.2.2.2))) (by kernel_rfl) ?_ (fun hHeld => ?_)
  · exact ⟨K0_x.out, K1_x.out, K2_x.out, K3_x.out⟩
  refine wpAnyH_take (i := 0) (oi := { dst := some 164, op := Op.move (Operand.tmp 7), type := 4, pos := "laws.go:588", after := #[], guard := none }) (v := ?_) rfl (by kernel_rfl) (by kernel_rfl) (by kernel_rfl) (fun _ _ _ h => h) (Or.inl ⟨by rfl, ?_⟩) (by assumption) ?_
  rotate_left
  · intro w' hSw; (try dsimp only at hSw); first | (go_simp; done) | (go_simp; with_reducible rfl)
  (try simp only [Act.put, List.setIfInBounds_toArray, List.set_cons_zero, List.set_cons_succ])
  refine wpAnyH_take (i := 1) (oi := { dst := some 165, op := Op.move (Operand.tmp 164), type := 4, pos := "laws.go:588", after := #[{ on := 0, ground := Ground.data }], guard := none }) (v := ?_) rfl (by kernel_rfl) (by kernel_rfl) (by kernel_rfl) (fun _ _ _ h => h) (Or.inl ⟨by rfl, ?_⟩) (by assumption) ?_
  rotate_left
  · intro w' hSw; (try dsimp only at hSw); first | (go_simp; done) | (go_simp; with_reducible rfl)
  (try simp only [Act.put, List.setIfInBounds_toArray, List.set_cons_zero, List.set_cons_succ])
  refine wpAnyH_take (i := 2) (oi := { dst := some 166, op := Op.load 28 (Operand.tmp 6), type := 28, pos := "laws.go:588", after := #[{ on := 1, ground := Ground.guard }], guard := some (1, true) }) (v := ?_) rfl (by kernel_rfl) (by kernel_rfl) (by kernel_rfl) (fun _ _ _ h => h) (Or.inl ⟨by rfl, ?_⟩) (by assumption) ?_
  rotate_left
  · intro w' hSw; (try dsimp only at hSw); first | (go_simp; done) | (go_simp; with_reducible rfl)
  (try simp only [Act.put, List.setIfInBounds_toArray, List.set_cons_zero, List.set_cons_succ])
  refine wpAnyH_ready (rs := [3]) (by kernel_rfl) (by simp) ?_
  refine AllReadyH.cons (o := { dst := some 167, op := Op.call { callee := Callee.value (Operand.func 28), args := #[Operand.tmp 166], argTypes := #[28] }, type := 4, pos := "laws.go:588", after := #[{ on := 2, ground := Ground.data }, { on := 1, ground := Ground.chain }, { on := 1, ground := Ground.guard }], guard := some (1, true) }) rfl (fun K hK => ?_) AllReadyH.nil
  go_simp
  refine (iValWV true HV.out Hd_x.out (by omega)).mono ?_
  rintro e wx ⟨rfl, hb⟩
  replace Hd_x := Lib.hid (Hd_x.out.on hb)
  replace Hd_c := Lib.hid (Hd_c.out.on hb)
  replace K0_x := Lib.hid ((hb.cell (cell_lt K0_x.out)).trans K0_x.out)
  replace K1_x := Lib.hid ((hb.cell (cell_lt K1_x.out)).trans K1_x.out)
  replace K2_x := Lib.hid ((hb.cell (cell_lt K2_x.out)).trans K2_x.out)
  replace K3_x := Lib.hid ((hb.cell (cell_lt K3_x.out)).trans K3_x.out)
  replace BB := Lib.hid (BB.out.trans (hb.mono BB.out.size)); clear hb
  (try go_wp2_with fail)
  clear hHeld
  refine hK.out _ _ ?_ (fun hHeld => ?_)
  · (try dsimp only); exact ⟨K0_x.out, K1_x.out, K2_x.out, K3_x.out⟩
  clear hK K
  (try simp only [Act.put, List.setIfInBounds_toArray, List.set_cons_zero, List.set_cons_succ])
  refine wpAnyH_take (i := 4) (oi := { dst := some 168, op := Op.unOp UnOp.not 4 (Operand.tmp 167), type := 4, pos := "laws.go:588", after := #[{ on := 3, ground := Ground.data }, { on := 1, ground := Ground.guard }], guard := some (1, true) }) (v := ?_) rfl (by kernel_rfl) (by kernel_rfl) (by kernel_rfl) (fun _ _ _ h => h) (Or.inl ⟨by rfl, ?_⟩) (by assumption) ?_
  rotate_left
  · intro w' hSw; (try dsimp only at hSw); first | (go_simp; done) | (go_simp; with_reducible rfl)
  (try simp only [Act.put, List.setIfInBounds_toArray, List.set_cons_zero, List.set_cons_succ])
  refine wpAnyH_take (i := 5) (oi := { dst := some 169, op := Op.move (Operand.tmp 168), type := 4, pos := "laws.go:588", after := #[{ on := 4, ground := Ground.data }, { on := 3, ground := Ground.chain }, { on := 1, ground := Ground.guard }], guard := some (1, true) }) (v := ?_) rfl (by kernel_rfl) (by kernel_rfl) (by kernel_rfl) (fun _ _ _ h => h) (Or.inl ⟨by rfl, ?_⟩) (by assumption) ?_
  rotate_left
  · intro w' hSw; (try dsimp only at hSw); first | (go_simp; done) | (go_simp; with_reducible rfl)
  (try simp only [Act.put, List.setIfInBounds_toArray, List.set_cons_zero, List.set_cons_succ])
  refine wpAnyH_take (i := 6) (oi := { dst := some 170, op := Op.load 28 (Operand.tmp 6), type := 28, pos := "laws.go:588", after := #[{ on := 5, ground := Ground.guard }], guard := some (5, false) }) (v := ?_) rfl (by kernel_rfl) (by kernel_rfl) (by kernel_rfl) (fun _ _ _ h => h) (Or.inl ⟨by rfl, ?_⟩) (by assumption) ?_
  rotate_left
  · intro w' hSw; (try dsimp only at hSw); first | (go_simp; done) | (go_simp; with_reducible rfl)
  (try simp only [Act.put, List.setIfInBounds_toArray, List.set_cons_zero, List.set_cons_succ])
  refine wpAnyH_take (i := 8) (oi := { dst := some 172, op := Op.move (Operand.tmp 5), type := 22, pos := "laws.go:588", after := #[{ on := 5, ground := Ground.guard }], guard := some (5, false) }) (v := ?_) rfl (by kernel_rfl) (by kernel_rfl) (by kernel_rfl) (fun _ _ _ h => h) (Or.inl ⟨by rfl, ?_⟩) (by assumption) ?_
  rotate_left
  · intro w' hSw; (try dsimp only at hSw); first | (go_simp; done) | (go_simp; with_reducible rfl)
  (try simp only [Act.put, List.setIfInBounds_toArray, List.set_cons_zero, List.set_cons_succ])
  refine wpAnyH_ready (rs := [7]) (by kernel_rfl) (by simp) ?_
  refine AllReadyH.cons (o := { dst := some 171, op := Op.call { callee := Callee.value (Operand.func 7), args := #[Operand.tmp 170], argTypes := #[28] }, type := 22, pos := "laws.go:588", after := #[{ on := 6, ground := Ground.data }, { on := 5, ground := Ground.chain }, { on := 5, ground := Ground.guard }], guard := some (5, false) }) rfl (fun K hK => ?_) AllReadyH.nil
  go_simp
  refine (implEncodeInterestK _ xx _ Hd_x.out (by omega)).mono ?_
  rintro e wx ⟨U_r, rfl, o_r, hb⟩
  obtain ⟨x_r, n_r, c_r, rfl, o_r⟩ := kB_shape o_r
  have HR := Lib.hid o_r.at; clear o_r
  replace Hd_x := Lib.hid (Hd_x.out.on hb)
  replace Hd_c := Lib.hid (Hd_c.out.on hb)
  replace K0_x := Lib.hid ((hb.cell (cell_lt K0_x.out)).trans K0_x.out)
  replace K1_x := Lib.hid ((hb.cell (cell_lt K1_x.out)).trans K1_x.out)
  replace K2_x := Lib.hid ((hb.cell (cell_lt K2_x.out)).trans K2_x.out)
  replace K3_x := Lib.hid ((hb.cell (cell_lt K3_x.out)).trans K3_x.out)
  replace BB := Lib.hid (BB.out.trans (hb.mono BB.out.size)); clear hb
  (try go_wp2_with fail)
  clear hHeld
  refine hK.out _ _ ?_ (fun hHeld => ?_)
  · (try dsimp only); exact ⟨K0_x.out, K1_x.out, K2_x.out, K3_x.out⟩
  clear hK K
  (try simp only [Act.put, List.setIfInBounds_toArray, List.set_cons_zero, List.set_cons_succ])
  refine wpAnyH_ready (rs := [9]) (by kernel_rfl) (by simp) ?_
  refine AllReadyH.cons (o := { dst := some 173, op := Op.call { callee := Callee.value (Operand.func 19), args := #[Operand.tmp 171, Operand.tmp 172], argTypes := #[22, 22] }, type := 4, pos := "laws.go:588", after := #[{ on := 7, ground := Ground.data }, { on := 8, ground := Ground.data }, { on := 7, ground := Ground.chain }, { on := 5, ground := Ground.guard }], guard := some (5, false) }) rfl (fun K hK => ?_) AllReadyH.nil
  go_simp
  refine (sameBV HE.out HR.out Hd_c.out (by rw [HE.out]; omega)).mono ?_
  rintro e wx ⟨rfl, hb⟩
  clear HR
  replace Hd_x := Lib.hid (Hd_x.out.on hb)
  replace Hd_c := Lib.hid (Hd_c.out.on hb)
  replace K0_x := Lib.hid ((hb.cell (cell_lt K0_x.out)).trans K0_x.out)
  replace K1_x := Lib.hid ((hb.cell (cell_lt K1_x.out)).trans K1_x.out)
  replace K2_x := Lib.hid ((hb.cell (cell_lt K2_x.out)).trans K2_x.out)
  replace K3_x := Lib.hid ((hb.cell (cell_lt K3_x.out)).trans K3_x.out)
  replace BB := Lib.hid (BB.out.trans (hb.mono BB.out.size)); clear hb
  (try go_wp2_with fail)
  clear hHeld
  refine hK.out _ _ ?_ (fun hHeld => ?_)
  · (try dsimp only); exact ⟨K0_x.out, K1_x.out, K2_x.out, K3_x.out⟩
  clear hK K
  (try simp only [Act.put, List.setIfInBounds_toArray, List.set_cons_zero, List.set_cons_succ])
  refine wpAnyH_take (i := 10) (oi := { dst := some 174, op := Op.unOp UnOp.not 4 (Operand.tmp 173), type := 4, pos := "laws.go:588", after := #[{ on := 9, ground := Ground.data }, { on := 5, ground := Ground.guard }], guard := some (5, false) }) (v := ?_) rfl (by kernel_rfl) (by kernel_rfl) (by kernel_rfl) (fun _ _ _ h => h) (Or.inl ⟨by rfl, ?_⟩) (by assumption) ?_
  rotate_left
  · intro w' hSw; (try dsimp only at hSw); first | (go_simp; done) | (go_simp; with_reducible rfl)
  (try simp only [Act.put, List.setIfInBounds_toArray, List.set_cons_zero, List.set_cons_succ])
  refine wpAnyH_take (i := 11) (oi := { dst := some 175, op := Op.pick (Operand.tmp 169) (Operand.const (Value.bool true)) (Operand.tmp 174), type := 4, pos := "laws.go:588", after := #[{ on := 5, ground := Ground.data }, { on := 10, ground := Ground.data }, { on := 1, ground := Ground.guard }], guard := some (1, true) }) (v := ?_) rfl (by kernel_rfl) (by kernel_rfl) (by kernel_rfl) (fun _ _ _ h => h) (Or.inl ⟨by rfl, ?_⟩) (by assumption) ?_
  rotate_left
  · intro w' hSw; (try dsimp only at hSw); first | (go_simp; done) | (go_simp; with_reducible rfl)
  (try simp only [Act.put, List.setIfInBounds_toArray, List.set_cons_zero, List.set_cons_succ])
  refine wpAnyH_take (i := 12) (oi := { dst := some 176, op := Op.pick (Operand.tmp 165) (Operand.tmp 175) (Operand.const (Value.bool false)), type := 4, pos := "laws.go:588", after := #[{ on := 1, ground := Ground.data }, { on := 11, ground := Ground.data }], guard := none }) (v := ?_) rfl (by kernel_rfl) (by kernel_rfl) (by kernel_rfl) (fun _ _ _ h => h) (Or.inl ⟨by rfl, ?_⟩) (by assumption) ?_
  rotate_left
  · intro w' hSw; (try dsimp only at hSw); first | (go_simp; done) | (go_simp; with_reducible rfl)
  (try simp only [Act.put, List.setIfInBounds_toArray, List.set_cons_zero, List.set_cons_succ])
  refine wpAnyH_take (i := 13) (oi := { dst := some 177, op := Op.move (Operand.tmp 176), type := 4, pos := "laws.go:588", after := #[{ on := 12, ground := Ground.data }, { on := 9, ground := Ground.chain }], guard := none }) (v := ?_) rfl (by kernel_rfl) (by kernel_rfl) (by kernel_rfl) (fun _ _ _ h => h) (Or.inl ⟨by rfl, ?_⟩) (by assumption) ?_
  rotate_left
  · intro w' hSw; (try dsimp only at hSw); first | (go_simp; done) | (go_simp; with_reducible rfl)
  (try simp only [Act.put, List.setIfInBounds_toArray, List.set_cons_zero, List.set_cons_succ])
  refine wpAnyH_take (i := 14) (oi := { dst := some 178, op := Op.move (Operand.tmp 16), type := 4, pos := "laws.go:588", after := #[{ on := 13, ground := Ground.guard }], guard := some (13, false) }) (v := ?_) rfl (by kernel_rfl) (by kernel_rfl) (by kernel_rfl) (fun _ _ _ h => h) (Or.inl ⟨by rfl, ?_⟩) (by assumption) ?_
  rotate_left
  · intro w' hSw; (try dsimp only at hSw); first | (go_simp; done) | (go_simp; with_reducible rfl)
  (try simp only [Act.put, List.setIfInBounds_toArray, List.set_cons_zero, List.set_cons_succ])
  refine wpAnyH_take (i := 15) (oi := { dst := some 179, op := Op.move (Operand.tmp 178), type := 4, pos := "laws.go:588", after := #[{ on := 14, ground := Ground.data }, { on := 13, ground := Ground.chain }, { on := 13, ground := Ground.guard }], guard := some (13, false) }) (v := ?_) rfl (by kernel_rfl) (by kernel_rfl) (by kernel_rfl) (fun _ _ _ h => h) (Or.inl ⟨by rfl, ?_⟩) (by assumption) ?_
  rotate_left
  · intro w' hSw; (try dsimp only at hSw); first | (go_simp; done) | (go_simp; with_reducible rfl)
  (try simp only [Act.put, List.setIfInBounds_toArray, List.set_cons_zero, List.set_cons_succ])
  refine wpAnyH_take (i := 16) (oi := { dst := some 180, op := Op.move (Operand.tmp 12), type := 22, pos := "laws.go:588", after := #[{ on := 15, ground := Ground.guard }], guard := some (15, true) }) (v := undef) rfl (by kernel_rfl) (by kernel_rfl) (by kernel_rfl) (fun _ _ _ h => h) (Or.inr ⟨by rfl, rfl⟩) (by assumption) ?_
  (try simp only [Act.put, List.setIfInBounds_toArray, List.set_cons_zero, List.set_cons_succ])
  refine wpAnyH_take (i := 17) (oi := { dst := some 181, op := Op.move (Operand.tmp 13), type := 3, pos := "laws.go:588", after := #[{ on := 15, ground := Ground.guard }], guard := some (15, true) }) (v := undef) rfl (by kernel_rfl) (by kernel_rfl) (by kernel_rfl) (fun _ _ _ h => h) (Or.inr ⟨by rfl, rfl⟩) (by assumption) ?_
  (try simp only [Act.put, List.setIfInBounds_toArray, List.set_cons_zero, List.set_cons_succ])
  refine wpAnyH_take (i := 18) (oi := { dst := some 182, op := Op.slice 22 (Operand.tmp 180) none (some (Operand.tmp 181)) none, type := 22, pos := "laws.go:588", after := #[{ on := 16, ground := Ground.data }, { on := 17, ground := Ground.data }, { on := 15, ground := Ground.guard }], guard := some (15, true) }) (v := undef) rfl (by kernel_rfl) (by kernel_rfl) (by kernel_rfl) (fun _ _ _ h => h) (Or.inr ⟨by rfl, rfl⟩) (by assumption) ?_
  (try simp only [Act.put, List.setIfInBounds_toArray, List.set_cons_zero, List.set_cons_succ])
  refine wpAnyH_take (i := 19) (oi := { dst := some 183, op := Op.load 26 (Operand.tmp 14), type := 26, pos := "laws.go:588", after := #[{ on := 15, ground := Ground.guard }], guard := some (15, true) }) (v := undef) rfl (by kernel_rfl) (by kernel_rfl) (by kernel_rfl) (fun _ _ _ h => h) (Or.inr ⟨by rfl, rfl⟩) (by assumption) ?_
  (try simp only [Act.put, List.setIfInBounds_toArray, List.set_cons_zero, List.set_cons_succ])
  refine wpAnyH_take (i := 20) (oi := { dst := some 184, op := Op.call { callee := Callee.value (Operand.func 22), args := #[Operand.tmp 182, Operand.tmp 183], argTypes := #[22, 26] }, type := 22, pos := "laws.go:588", after := #[{ on := 18, ground := Ground.data }, { on := 19, ground := Ground.data }, { on := 15, ground := Ground.chain }, { on := 15, ground := Ground.guard }], guard := some (15, true) }) (v := undef) rfl (by kernel_rfl) (by kernel_rfl) (by kernel_rfl) (fun _ _ _ h => h) (Or.inr ⟨by rfl, rfl⟩) (by assumption) ?_
  (try simp only [Act.put, List.setIfInBounds_toArray, List.set_cons_zero, List.set_cons_succ])
  refine wpAnyH_take (i := 21) (oi := { dst := some 185, op := Op.move (Operand.tmp 12), type := 22, pos := "laws.go:588", after := #[{ on := 15, ground := Ground.guard }], guard := some (15, true) }) (v := undef) rfl (by kernel_rfl) (by kernel_rfl) (by kernel_rfl) (fun _ _ _ h => h) (Or.inr ⟨by rfl, rfl⟩) (by assumption) ?_
  (try simp only [Act.put, List.setIfInBounds_toArray, List.set_cons_zero, List.set_cons_succ])
  refine wpAnyH_take (i := 22) (oi := { dst := some 186, op := Op.move (Operand.tmp 15), type := 3, pos := "laws.go:588", after := #[{ on := 15, ground := Ground.guard }], guard := some (15, true) }) (v := undef) rfl (by kernel_rfl) (by kernel_rfl) (by kernel_rfl) (fun _ _ _ h => h) (Or.inr ⟨by rfl, rfl⟩) (by assumption) ?_
  (try simp only [Act.put, List.setIfInBounds_toArray, List.set_cons_zero, List.set_cons_succ])
  refine wpAnyH_take (i := 23) (oi := { dst := some 187, op := Op.slice 22 (Operand.tmp 185) none (some (Operand.tmp 186)) none, type := 22, pos := "laws.go:588", after := #[{ on := 21, ground := Ground.data }, { on := 22, ground := Ground.data }, { on := 15, ground := Ground.guard }], guard := some (15, true) }) (v := undef) rfl (by kernel_rfl) (by kernel_rfl) (by kernel_rfl) (fun _ _ _ h => h) (Or.inr ⟨by rfl, rfl⟩) (by assumption) ?_
  (try simp only [Act.put, List.setIfInBounds_toArray, List.set_cons_zero, List.set_cons_succ])
  refine wpAnyH_take (i := 24) (oi := { dst := some 188, op := Op.call { callee := Callee.value (Operand.func 19), args := #[Operand.tmp 184, Operand.tmp 187], argTypes := #[22, 22] }, type := 4, pos := "laws.go:588", after := #[{ on := 20, ground := Ground.data }, { on := 23, ground := Ground.data }, { on := 20, ground := Ground.chain }, { on := 15, ground := Ground.guard }], guard := some (15, true) }) (v := undef) rfl (by kernel_rfl) (by kernel_rfl) (by kernel_rfl) (fun _ _ _ h => h) (Or.inr ⟨by rfl, rfl⟩) (by assumption) ?_
  (try simp only [Act.put, List.setIfInBounds_toArray, List.set_cons_zero, List.set_cons_succ])
  refine wpAnyH_take (i := 25) (oi := { dst := some 189, op := Op.unOp UnOp.not 4 (Operand.tmp 188), type := 4, pos := "laws.go:588", after := #[{ on := 24, ground := Ground.data }, { on := 15, ground := Ground.guard }], guard := some (15, true) }) (v := undef) rfl (by kernel_rfl) (by kernel_rfl) (by kernel_rfl) (fun _ _ _ h => h) (Or.inr ⟨by rfl, rfl⟩) (by assumption) ?_
  (try simp only [Act.put, List.setIfInBounds_toArray, List.set_cons_zero, List.set_cons_succ])
  refine wpAnyH_take (i := 26) (oi := { dst := some 190, op := Op.pick (Operand.tmp 179) (Operand.tmp 189) (Operand.const (Value.bool false)), type := 4, pos := "laws.go:588", after := #[{ on := 15, ground := Ground.data }, { on := 25, ground := Ground.data }, { on := 13, ground := Ground.guard }], guard := some (13, false) }) (v := ?_) rfl (by kernel_rfl) (by kernel_rfl) (by kernel_rfl) (fun _ _ _ h => h) (Or.inl ⟨by rfl, ?_⟩) (by assumption) ?_
  rotate_left
  · intro w' hSw; (try dsimp only at hSw); first | (go_simp; done) | (go_simp; with_reducible rfl)
  (try simp only [Act.put, List.setIfInBounds_toArray, List.set_cons_zero, List.set_cons_succ])
  refine wpAnyH_take (i := 27) (oi := { dst := some 191, op := Op.pick (Operand.tmp 177) (Operand.const (Value.bool true)) (Operand.tmp 190), type := 4, pos := "laws.go:588", after := #[{ on := 13, ground := Ground.data }, { on := 26, ground := Ground.data }], guard := none }) (v := ?_) rfl (by kernel_rfl) (by kernel_rfl) (by kernel_rfl) (fun _ _ _ h => h) (Or.inl ⟨by rfl, ?_⟩) (by assumption) ?_
  rotate_left
  · intro w' hSw; (try dsimp only at hSw); first | (go_simp; done) | (go_simp; with_reducible rfl)
  (try simp only [Act.put, List.setIfInBounds_toArray, List.set_cons_zero, List.set_cons_succ])
  refine wpAnyH_done (by kernel_rfl) ?_ _
  exact NoPanic.normal (HQ.out _ _ _ _ _ _ _ _ _ _ _ _ _ _ _ _ _ _ _ _ _ _ _ _ _ _ _ _ BB.out)

set_option maxRecDepth 100000 in
set_option maxHeartbeats 4000000 in
theorem regX7_11 {Q : Exit → Act → World → Prop} {v0 v1 v2 v3 v4 v8 v9 v10 v11 v17 v18 v19 v20 v21 v22 v23 v24 v25 v26 v27 v28 v29 v30 v31 v32 v33 v34 v35 v36 v37 v38 v39 v40 v41 v42 v43 v44 v45 v46 v47 v48 v49 v50 v51 v52 v53 v54 v55 v56 v57 v58 v59 v60 v61 v62 v63 v64 v65 v66 v67 v68 v69 v70 v71 v72 v73 v74 v75 v76 v77 v78 v79 v80 v81 v82 v83 v84 v85 v86 v87 v88 v89 v90 v91 v92 v93 v94 v95 v96 v97 v98 v99 v100 v101 v102 v103 v104 v105 v106 v107 v108 v109 v110 v111 v112 v113 v114 v115 v116 v117 v118 v119 v120 v121 v122 v123 v124 v125 v126 v127 v128 v129 v130 v131 v132 v133 v134 v135 v136 v137 v138 v139 v140 v141 v142 v143 v144 v145 v146 v147 v148 v149 v150 v151 v152 v153 v154 v155 v156 v157 v158 v159 v160 v161 v162 v163 v164 v165 v166 v167 v168 v169 v170 v171 v172 v173 v174 v175 v176 v177 v178 v179 v180 v181 v182 v183 v184 v185 v186 v187 v188 v189 v190 v191 v192 v193 v194 v195 v196 v197 v198 v199 v200 v201 v202 v203 v204 v205 v206 v207 v208 v209 v210 v211 v212 v213 v214 v215 v216 v217 v218 v219 v220 v221 v222 v223 v224 v225 v226 : Value} {w : World} {bx : Nat} {xx : Wt} {ec : List Int} {bm ii jj : Nat} {lm : List ByteArray} {eq : List Int} {x_x : Option Addr} {n_x c_x : Nat} {x_m : Option Addr} {n_m c_m : Nat} {x_c : Option Addr} {n_c c_c : Nat} {x_q : Option Addr} {n_q c_q : Nat} (K0_x : Hid (w.cell? ⟨bx, 0, none⟩ = some (.slice x_x n_x c_x))) (K1_x : Hid (w.cell? ⟨bx, 1, none⟩ = some (.int .i64 xx.2.1))) (K2_x : Hid (w.cell? ⟨bx, 2, none⟩ = some (.int .i64 xx.2.2.1))) (K3_x : Hid (w.cell? ⟨bx, 3, none⟩ = some (.int .i64 xx.2.2.2))) (H_x : Hid (kW.At w (.agg #[.slice x_x n_x c_x, .int .i64 xx.2.1, .int .i64 xx.2.2.1, .int .i64 xx.2.2.2]) xx)) (H_c : Hid (kB.At w (.slice x_c n_c c_c) ec)) (HV : Hid (validW xx = true)) (HE : Hid (encW xx = ec)) (h2 : bulk xx.1 ≤ 1000) (h3 : ec.length ≤ 1000000) (K0_m : Hid (w.cell? ⟨bm, 0, none⟩ = some (.slice x_m n_m c_m))) (H_m : Hid (kN.At w (.agg #[.slice x_m n_m c_m]) lm)) (H_q : Hid (kB.At w (.slice x_q n_q c_q) eq)) (HA : Hid (appName (eq.take ii) lm = eq.take jj)) (j1 : (ii : Int) ≤ (c_q : Int)) (j2 : (jj : Int) ≤ (c_q : Int)) (j3 : ii ≤ n_q) (j4 : jj ≤ n_q) (h4 : bulk lm ≤ 1000) (h5 : eq.length ≤ 1000000)
    (hQ : ∀ (u164 u165 u166 u167 u168 u169 u170 u171 u172 u173 u174 u175 u176 u177 u178 u179 u180 u181 u182 u183 u184 u185 u186 u187 u188 u189 u190 : Value) (wx : World), Below w.heap.size w wx → Q .normal ⟨#[v0, v1, v2, v3, v4, .slice x_c n_c c_c, .pointer (some ⟨bx, 0, none⟩), .bool true, v8, v9, v10, v11, .slice x_q n_q c_q, .int .i64 (ii : Nat), .pointer (some ⟨bm, 0, none⟩), .int .i64 (jj : Nat), .bool true, v17, v18, v19, v20, v21, v22, v23, v24, v25, v26, v27, v28, v29, v30, v31, v32, v33, v34, v35, v36, v37, v38, v39, v40, v41, v42, v43, v44, v45, v46, v47, v48, v49, v50, v51, v52, v53, v54, v55, v56, v57, v58, v59, v60, v61, v62, v63, v64, v65, v66, v67, v68, v69, v70, v71, v72, v73, v74, v75, v76, v77, v78, v79, v80, v81, v82, v83, v84, v85, v86, v87, v88, v89, v90, v91, v92, v93, v94, v95, v96, v97, v98, v99, v100, v101, v102, v103, v104, v105, v106, v107, v108, v109, v110, v111, v112, v113, v114, v115, v116, v117, v118, v119, v120, v121, v122, v123, v124, v125, v126, v127, v128, v129, v130, v131, v132, v133, v134, v135, v136, v137, v138, v139, v140, v141, v142, v143, v144, v145, v146, v147, v148, v149, v150, v151, v152, v153, v154, v155, v156, v157, v158, v159, v160, v161, v162, v163, u164, u165, u166, u167, u168, u169, u170, u171, u172, u173, u174, u175, u176, u177, u178, u179, u180, u181, u182, u183, u184, u185, u186, u187, u188, u189, u190, .bool false, v192, v193, v194, v195, v196, v197, v198, v199, v200, v201, v202, v203, v204, v205, v206, v207, v208, v209, v210, v211, v212, v213, v214, v215, v216, v217, v218, v219, v220, v221, v222, v223, v224, v225, v226], []⟩ wx) :
    (Code.region 18 #[{ dst := some 164, op := Op.move (Operand.tmp 7), type := 4, pos := "laws.go:588", after := #[], guard := none },
      { dst := some 165, op := Op.move (Operand.tmp 164), type := 4, pos := "laws.go:588", after := #[{ on := 0, ground := Ground.data }], guard := none },
      { dst := some 166, op := Op.load 28 (Operand.tmp 6), type := 28, pos := "laws.go:588", after := #[{ on := 1, ground := Ground.guard }], guard := some (1, true) },
      { dst := some 167, op := Op.call { callee := Callee.value (Operand.func 28), args := #[Operand.tmp 166], argTypes := #[28] }, type := 4, pos := "laws.go:588", after := #[{ on := 2, ground := Ground.data }, { on := 1, ground := Ground.chain }, { on := 1, ground := Ground.guard }], guard := some (1, true) },
      { dst := some 168, op := Op.unOp UnOp.not 4 (Operand.tmp 167), type := 4, pos := "laws.go:588", after := #[{ on := 3, ground := Ground.data }, { on := 1, ground := Ground.guard }], guard := some (1, true) },
      { dst := some 169, op := Op.move (Operand.tmp 168), type := 4, pos := "laws.go:588", after := #[{ on := 4, ground := Ground.data }, { on := 3, ground := Ground.chain }, { on := 1, ground := Ground.guard }], guard := some (1, true) },
      { dst := some 170, op := Op.load 28 (Operand.tmp 6), type := 28, pos := "laws.go:588", after := #[{ on := 5, ground := Ground.guard }], guard := some (5, false) },
      { dst := some 171, op := Op.call { callee := Callee.value (Operand.func 7), args := #[Operand.tmp 170], argTypes := #[28] }, type := 22, pos := "laws.go:588", after := #[{ on := 6, ground := Ground.data }, { on := 5, ground := Ground.chain }, { on := 5, ground := Ground.guard }], guard := some (5, false) },
      { dst := some 172, op := Op.move (Operand.tmp 5), type := 22, pos := "laws.go:588", after := #[{ on := 5, ground := Ground.guard }], guard := some (5, false) },
      { dst := some 173, op := Op.call { callee := Callee.value (Operand.func 19), args := #[Operand.tmp 171, Operand.tmp 172], argTypes := #[22, 22] }, type := 4, pos := "laws.go:588", after := #[{ on := 7, ground := Ground.data }, { on := 8, ground := Ground.data }, { on := 7, ground := Ground.chain }, { on := 5, ground := Ground.guard }], guard := some (5, false) },
      { dst := some 174, op := Op.unOp UnOp.not 4 (Operand.tmp 173), type := 4, pos := "laws.go:588", after := #[{ on := 9, ground := Ground.data }, { on := 5, ground := Ground.guard }], guard := some (5, false) },
      { dst := some 175, op := Op.pick (Operand.tmp 169) (Operand.const (Value.bool true)) (Operand.tmp 174), type := 4, pos := "laws.go:588", after := #[{ on := 5, ground := Ground.data }, { on := 10, ground := Ground.data }, { on := 1, ground := Ground.guard }], guard := some (1, true) },
      { dst := some 176, op := Op.pick (Operand.tmp 165) (Operand.tmp 175) (Operand.const (Value.bool false)), type := 4, pos := "laws.go:588", after := #[{ on := 1, ground := Ground.data }, { on := 11, ground := Ground.data }], guard := none },
      { dst := some 177, op := Op.move (Operand.tmp 176), type := 4, pos := "laws.go:588", after := #[{ on := 12, ground := Ground.data }, { on := 9, ground := Ground.chain }], guard := none },
      { dst := some 178, op := Op.move (Operand.tmp 16), type := 4, pos := "laws.go:588", after := #[{ on := 13, ground := Ground.guard }], guard := some (13, false) },
      { dst := some 179, op := Op.move (Operand.tmp 178), type := 4, pos := "laws.go:588", after := #[{ on := 14, ground := Ground.data }, { on := 13, ground := Ground.chain }, { on := 13, ground := Ground.guard }], guard := some (13, false) },
      { dst := some 180, op := Op.move (Operand.tmp 12), type := 22, pos := "laws.go:588", after := #[{ on := 15, ground := Ground.guard }], guard := some (15, true) },
      { dst := some 181, op := Op.move (Operand.tmp 13), type := 3, pos := "laws.go:588", after := #[{ on := 15, ground := Ground.guard }], guard := some (15, true) },
      { dst := some 182, op := Op.slice 22 (Operand.tmp 180) none (some (Operand.tmp 181)) none, type := 22, pos := "laws.go:588", after := #[{ on := 16, ground := Ground.data }, { on := 17, ground := Ground.data }, { on := 15, ground := Ground.guard }], guard := some (15, true) },
      { dst := some 183, op := Op.load 26 (Operand.tmp 14), type := 26, pos := "laws.go:588", after := #[{ on := 15, ground := Ground.guard }], guard := some (15, true) },
      { dst := some 184, op := Op.call { callee := Callee.value (Operand.func 22), args := #[Operand.tmp 182, Operand.tmp 183], argTypes := #[22, 26] }, type := 22, pos := "laws.go:588", after := #[{ on := 18, ground := Ground.data }, { on := 19, ground := Ground.data }, { on := 15, ground := Ground.chain }, { on := 15, ground := Ground.guard }], guard := some (15, true) },
      { dst := some 185, op := Op.move (Operand.tmp 12), type := 22, pos := "laws.go:588", after := #[{ on := 15, ground := Ground.guard }], guard := some (15, true) },
      { dst := some 186, op := Op.move (Operand.tmp 15), type := 3, pos := "laws.go:588", after := #[{ on := 15, ground := Ground.guard }], guard := some (15, true) },
      { dst := some 187, op := Op.slice 22 (Operand.tmp 185) none (some (Operand.tmp 186)) none, type := 22, pos := "laws.go:588", after := #[{ on := 21, ground := Ground.data }, { on := 22, ground := Ground.data }, { on := 15, ground := Ground.guard }], guard := some (15, true) },
      { dst := some 188, op := Op.call { callee := Callee.value (Operand.func 19), args := #[Operand.tmp 184, Operand.tmp 187], argTypes := #[22, 22] }, type := 4, pos := "laws.go:588", after := #[{ on := 20, ground := Ground.data }, { on := 23, ground := Ground.data }, { on := 20, ground := Ground.chain }, { on := 15, ground := Ground.guard }], guard := some (15, true) },
      { dst := some 189, op := Op.unOp UnOp.not 4 (Operand.tmp 188), type := 4, pos := "laws.go:588", after := #[{ on := 24, ground := Ground.data }, { on := 15, ground := Ground.guard }], guard := some (15, true) },
      { dst := some 190, op := Op.pick (Operand.tmp 179) (Operand.tmp 189) (Operand.const (Value.bool false)), type := 4, pos := "laws.go:588", after := #[{ on := 15, ground := Ground.data }, { on := 25, ground := Ground.data }, { on := 13, ground := Ground.guard }], guard := some (13, false) },
      { dst := some 191, op := Op.pick (Operand.tmp 177) (Operand.const (Value.bool true)) (Operand.tmp 190), type := 4, pos := "laws.go:588", after := #[{ on := 13, ground := Ground.data }, { on := 26, ground := Ground.data }], guard := none }] true).wp Tryd.prog Q ⟨#[v0, v1, v2, v3, v4, .slice x_c n_c c_c, .pointer (some ⟨bx, 0, none⟩), .bool true, v8, v9, v10, v11, .slice x_q n_q c_q, .int .i64 (ii : Nat), .pointer (some ⟨bm, 0, none⟩), .int .i64 (jj : Nat), .bool true, v17, v18, v19, v20, v21, v22, v23, v24, v25, v26, v27, v28, v29, v30, v31, v32, v33, v34, v35, v36, v37, v38, v39, v40, v41, v42, v43, v44, v45, v46, v47, v48, v49, v50, v51, v52, v53, v54, v55, v56, v57, v58, v59, v60, v61, v62, v63, v64, v65, v66, v67, v68, v69, v70, v71, v72, v73, v74, v75, v76, v77, v78, v79, v80, v81, v82, v83, v84, v85, v86, v87, v88, v89, v90, v91, v92, v93, v94, v95, v96, v97, v98, v99, v100, v101, v102, v103, v104, v105, v106, v107, v108, v109, v110, v111, v112, v113, v114, v115, v116, v117, v118, v119, v120, v121, v122, v123, v124, v125, v126, v127, v128, v129, v130, v131, v132, v133, v134, v135, v136, v137, v138, v139, v140, v141, v142, v143, v144, v145, v146, v147, v148, v149, v150, v151, v152, v153, v154, v155, v156, v157, v158, v159, v160, v161, v162, v163, v164, v165, v166, v167, v168, v169, v170, v171, v172, v173, v174, v175, v176, v177, v178, v179, v180, v181, v182, v183, v184, v185, v186, v187, v188, v189, v190, v191, v192, v193, v194, v195, v196, v197, v198, v199, v200, v201, v202, v203, v204, v205, v206, v207, v208, v209, v210, v211, v212, v213, v214, v215, v216, v217, v218, v219, v220, v221, v222, v223, v224, v225, v226], []⟩ w := by
  have HQ := Lib.hid hQ; clear hQ
  have hdr : Below w.heap.size w w.drew := (Below.refl _ _).drew
  have Hd_x := Lib.hid (H_x.out.on hdr)
  have Hd_c := Lib.hid (H_c.out.on hdr)
  have Hd_m := Lib.hid (H_m.out.on hdr)
  have Hd_q := Lib.hid (H_q.out.on hdr)
  replace K0_x := Lib.hid ((hdr.cell (cell_lt K0_x.out)).trans K0_x.out)
  replace K1_x := Lib.hid ((hdr.cell (cell_lt K1_x.out)).trans K1_x.out)
  replace K2_x := Lib.hid ((hdr.cell (cell_lt K2_x.out)).trans K2_x.out)
  replace K3_x := Lib.hid ((hdr.cell (cell_lt K3_x.out)).trans K3_x.out)
  replace K0_m := Lib.hid ((hdr.cell (cell_lt K0_m.out)).trans K0_m.out)
  have BB := Lib.hid hdr; clear hdr
  refine wp_region_noPanic ?_
  refine wp_region_held_drew (S := (fun w' => w'.cell? ⟨bx, 0, none⟩ = some (.slice x_x n_x c_x) ∧ w'.cell? ⟨bx, 1, none⟩ = some (.int .i64 xx.2.1) ∧ w'.cell? ⟨bx, 2, none⟩ = some (.int .i64 xx.2.2.1) ∧ w'.cell? ⟨bx, 3, none⟩ = some (.int .i64 xx.2.2.2) ∧ w'.cell? ⟨bm, 0, none⟩ = some (.slice x_m n_m c_m))) (by kernel_rfl) ?_ (fun hHeld => ?_)
  · exact ⟨K0_x.out, K1_x.out, K2_x.out, K3_x.out, K0_m.out⟩
  refine wpAnyH_take (i := 0) (oi := { dst := some 164, op := Op.move (Operand.tmp 7), type := 4, pos := "laws.go:588", after := #[], guard := none }) (v := ?_) rfl (by kernel_rfl) (by kernel_rfl) (by kernel_rfl) (fun _ _ _ h => h) (Or.inl ⟨by rfl, ?_⟩) (by assumption) ?_
  rotate_left
  · intro w' hSw; (try dsimp only at hSw); first | (go_simp; done) | (go_simp; with_reducible rfl)
  (try simp only [Act.put, List.setIfInBounds_toArray, List.set_cons_zero, List.set_cons_succ])
  refine wpAnyH_take (i := 1) (oi := { dst := some 165, op := Op.move (Operand.tmp 164), type := 4, pos := "laws.go:588", after := #[{ on := 0, ground := Ground.data }], guard := none }) (v := ?_) rfl (by kernel_rfl) (by kernel_rfl) (by kernel_rfl) (fun _ _ _ h => h) (Or.inl ⟨by rfl, ?_⟩) (by assumption) ?_
  rotate_left
  · intro w' hSw; (try dsimp only at hSw); first | (go_simp; done) | (go_simp; with_reducible rfl)
  (try simp only [Act.put, List.setIfInBounds_toArray, List.set_cons_zero, List.set_cons_succ])
  refine wpAnyH_take (i := 2) (oi := { dst := some 166, op := Op.load 28 (Operand.tmp 6), type := 28, pos := "laws.go:588", after := #[{ on := 1, ground := Ground.guard }], guard := some (1, true) }) (v := ?_) rfl (by kernel_rfl) (by kernel_rfl) (by kernel_rfl) (fun _ _ _ h => h) (Or.inl ⟨by rfl, ?_⟩) (by assumption) ?_
  rotate_left
  · intro w' hSw; (try dsimp only at hSw); first | (go_simp; done) | (go_simp; with_reducible rfl)
  (try simp only [Act.put, List.setIfInBounds_toArray, List.set_cons_zero, List.set_cons_succ])
  refine wpAnyH_ready (rs := [3]) (by kernel_rfl) (by simp) ?_
  refine AllReadyH.cons (o := { dst := some 167, op := Op.call { callee := Callee.value (Operand.func 28), args := #[Operand.tmp 166], argTypes := #[28] }, type := 4, pos := "laws.go:588", after := #[{ on := 2, ground := Ground.data }, { on := 1, ground := Ground.chain }, { on := 1, ground := Ground.guard }], guard := some (1, true) }) rfl (fun K hK => ?_) AllReadyH.nil
  go_simp
  refine (iValWV true HV.out Hd_x.out (by omega)).mono ?_
  rintro e wx ⟨rfl, hb⟩
  replace Hd_x := Lib.hid (Hd_x.out.on hb)
  replace Hd_c := Lib.hid (Hd_c.out.on hb)
  replace Hd_m := Lib.hid (Hd_m.out.on hb)
  replace Hd_q := Lib.hid (Hd_q.out.on hb)
  replace K0_x := Lib.hid ((hb.cell (cell_lt K0_x.out)).trans K0_x.out)
  replace K1_x := Lib.hid ((hb.cell (cell_lt K1_x.out)).trans K1_x.out)
  replace K2_x := Lib.hid ((hb.cell (cell_lt K2_x.out)).trans K2_x.out)
  replace K3_x := Lib.hid ((hb.cell (cell_lt K3_x.out)).trans K3_x.out)
  replace K0_m := Lib.hid ((hb.cell (cell_lt K0_m.out)).trans K0_m.out)
  replace BB := Lib.hid (BB.out.trans (hb.mono BB.out.size)); clear hb
  (try go_wp2_with fail)
  clear hHeld
  refine hK.out _ _ ?_ (fun hHeld => ?_)
  · (try dsimp only); exact ⟨K0_x.out, K1_x.out, K2_x.out, K3_x.out, K0_m.out⟩
  clear hK K
  (try simp only [Act.put, List.setIfInBounds_toArray, List.set_cons_zero, List.set_cons_succ])
  refine wpAnyH_take (i := 4) (oi := { dst := some 168, op := Op.unOp UnOp.not 4 (Operand.tmp 167), type := 4, pos := "laws.go:588", after := #[{ on := 3, ground := Ground.data }, { on := 1, ground := Ground.guard }], guard := some (1, true) }) (v := ?_) rfl (by kernel_rfl) (by kernel_rfl) (by kernel_rfl) (fun _ _ _ h => h) (Or.inl ⟨by rfl, ?_⟩) (by assumption) ?_
  rotate_left
  · intro w' hSw; (try dsimp only at hSw); first | (go_simp; done) | (go_simp; with_reducible rfl)
  (try simp only [Act.put, List.setIfInBounds_toArray, List.set_cons_zero, List.set_cons_succ])
  refine wpAnyH_take (i := 5) (oi := { dst := some 169, op := Op.move (Operand.tmp 168), type := 4, pos := "laws.go:588", after := #[{ on := 4, ground := Ground.data }, { on := 3, ground := Ground.chain }, { on := 1, ground := Ground.guard }], guard := some (1, true) }) (v := ?_) rfl (by kernel_rfl) (by kernel_rfl) (by kernel_rfl) (fun _ _ _ h => h) (Or.inl ⟨by rfl, ?_⟩) (by assumption) ?_
  rotate_left
  · intro w' hSw; (try dsimp only at hSw); first | (go_simp; done) | (go_simp; with_reducible rfl)
  (try simp only [Act.put, List.setIfInBounds_toArray, List.set_cons_zero, List.set_cons_succ])
  refine wpAnyH_take (i := 6) (oi := { dst := some 170, op := Op.load 28 (Operand.tmp 6), type := 28, pos := "laws.go:588", after := #[{ on := 5, ground := Ground.guard }], guard := some (5, false) }) (v := ?_) rfl (by kernel_rfl) (by kernel_rfl) (by kernel_rfl) (fun _ _ _ h => h) (Or.inl ⟨by rfl, ?_⟩) (by assumption) ?_
  rotate_left
  · intro w' hSw; (try dsimp only at hSw); first | (go_simp; done) | (go_simp; with_reducible rfl)
  (try simp only [Act.put, List.setIfInBounds_toArray, List.set_cons_zero, List.set_cons_succ])
  refine wpAnyH_take (i := 8) (oi := { dst := some 172, op := Op.move (Operand.tmp 5), type := 22, pos := "laws.go:588", after := #[{ on := 5, ground := Ground.guard }], guard := some (5, false) }) (v := ?_) rfl (by kernel_rfl) (by kernel_rfl) (by kernel_rfl) (fun _ _ _ h => h) (Or.inl ⟨by rfl, ?_⟩) (by assumption) ?_
  rotate_left
  · intro w' hSw; (try dsimp only at hSw); first | (go_simp; done) | (go_simp; with_reducible rfl)
  (try simp only [Act.put, List.setIfInBounds_toArray, List.set_cons_zero, List.set_cons_succ])
  refine wpAnyH_ready (rs := [7]) (by kernel_rfl) (by simp) ?_
  refine AllReadyH.cons (o := { dst := some 171, op := Op.call { callee := Callee.value (Operand.func 7), args := #[Operand.tmp 170], argTypes := #[28] }, type := 22, pos := "laws.go:588", after := #[{ on := 6, ground := Ground.data }, { on := 5, ground := Ground.chain }, { on := 5, ground := Ground.guard }], guard := some (5, false) }) rfl (fun K hK => ?_) AllReadyH.nil
  go_simp
  refine (implEncodeInterestK _ xx _ Hd_x.out (by omega)).mono ?_
  rintro e wx ⟨U_r, rfl, o_r, hb⟩
  obtain ⟨x_r, n_r, c_r, rfl, o_r⟩ := kB_shape o_r
  have HR := Lib.hid o_r.at; clear o_r
  replace Hd_x := Lib.hid (Hd_x.out.on hb)
  replace Hd_c := Lib.hid (Hd_c.out.on hb)
  replace Hd_m := Lib.hid (Hd_m.out.on hb)
  replace Hd_q := Lib.hid (Hd_q.out.on hb)
  replace K0_x := Lib.hid ((hb.cell (cell_lt K0_x.out)).trans K0_x.out)
  replace K1_x := Lib.hid ((hb.cell (cell_lt K1_x.out)).trans K1_x.out)
  replace K2_x := Lib.hid ((hb.cell (cell_lt K2_x.out)).trans K2_x.out)
  replace K3_x := Lib.hid ((hb.cell (cell_lt K3_x.out)).trans K3_x.out)
  replace K0_m := Lib.hid ((hb.cell (cell_lt K0_m.out)).trans K0_m.out)
  replace BB := Lib.hid (BB.out.trans (hb.mono BB.out.size)); clear hb
  (try go_wp2_with fail)
  clear hHeld
  refine hK.out _ _ ?_ (fun hHeld => ?_)
  · (try dsimp only); exact ⟨K0_x.out, K1_x.out, K2_x.out, K3_x.out, K0_m.out⟩
  clear hK K
  (try simp only [Act.put, List.setIfInBounds_toArray, List.set_cons_zero, List.set_cons_succ])
  refine wpAnyH_ready (rs := [9]) (by kernel_rfl) (by simp) ?_
  refine AllReadyH.cons (o := { dst := some 173, op := Op.call { callee := Callee.value (Operand.func 19), args := #[Operand.tmp 171, Operand.tmp 172], argTypes := #[22, 22] }, type := 4, pos := "laws.go:588", after := #[{ on := 7, ground := Ground.data }, { on := 8, ground := Ground.data }, { on := 7, ground := Ground.chain }, { on := 5, ground := Ground.guard }], guard := some (5, false) }) rfl (fun K hK => ?_) AllReadyH.nil
  go_simp
  refine (sameBV HE.out HR.out Hd_c.out (by rw [HE.out]; omega)).mono ?_
  rintro e wx ⟨rfl, hb⟩
  clear HR
  replace Hd_x := Lib.hid (Hd_x.out.on hb)
  replace Hd_c := Lib.hid (Hd_c.out.on hb)
  replace Hd_m := Lib.hid (Hd_m.out.on hb)
  replace Hd_q := Lib.hid (Hd_q.out.on hb)
  replace K0_x := Lib.hid ((hb.cell (cell_lt K0_x.out)).trans K0_x.out)
  replace K1_x := Lib.hid ((hb.cell (cell_lt K1_x.out)).trans K1_x.out)
  replace K2_x := Lib.hid ((hb.cell (cell_lt K2_x.out)).trans K2_x.out)
  replace K3_x := Lib.hid ((hb.cell (cell_lt K3_x.out)).trans K3_x.out)
  replace K0_m := Lib.hid ((hb.cell (cell_lt K0_m.out)).trans K0_m.out)
  replace BB := Lib.hid (BB.out.trans (hb.mono BB.out.size)); clear hb
  (try go_wp2_with fail)
  clear hHeld
  refine hK.out _ _ ?_ (fun hHeld => ?_)
  · (try dsimp only); exact ⟨K0_x.out, K1_x.out, K2_x.out, K3_x.out, K0_m.out⟩
  clear hK K
  (try simp only [Act.put, List.setIfInBounds_toArray, List.set_cons_zero, List.set_cons_succ])
  refine wpAnyH_take (i := 10) (oi := { dst := some 174, op := Op.unOp UnOp.not 4 (Operand.tmp 173), type := 4, pos := "laws.go:588", after := #[{ on := 9, ground := Ground.data }, { on := 5, ground := Ground.guard }], guard := some (5, false) }) (v := ?_) rfl (by kernel_rfl) (by kernel_rfl) (by kernel_rfl) (fun _ _ _ h => h) (Or.inl ⟨by rfl, ?_⟩) (by assumption) ?_
  rotate_left
  · intro w' hSw; (try dsimp only at hSw); first | (go_simp; done) | (go_simp; with_reducible rfl)
  (try simp only [Act.put, List.setIfInBounds_toArray, List.set_cons_zero, List.set_cons_succ])
  refine wpAnyH_take (i := 11) (oi := { dst := some 175, op := Op.pick (Operand.tmp 169) (Operand.const (Value.bool true)) (Operand.tmp 174), type := 4, pos := "laws.go:588", after := #[{ on := 5, ground := Ground.data }, { on := 10, ground := Ground.data }, { on := 1, ground := Ground.guard }], guard := some (1, true) }) (v := ?_) rfl (by kernel_rfl) (by kernel_rfl) (by kernel_rfl) (fun _ _ _ h => h) (Or.inl ⟨by rfl, ?_⟩) (by assumption) ?_
  rotate_left
  · intro w' hSw; (try dsimp only at hSw); first | (go_simp; done) | (go_simp; with_reducible rfl)
  (try simp only [Act.put, List.setIfInBounds_toArray, List.set_cons_zero, List.set_cons_succ])
  refine wpAnyH_take (i := 12) (oi := { dst := some 176, op := Op.pick (Operand.tmp 165) (Operand.tmp 175) (Operand.const (Value.bool false)), type := 4, pos := "laws.go:588", after := #[{ on := 1, ground := Ground.data }, { on := 11, ground := Ground.data }], guard := none }) (v := ?_) rfl (by kernel_rfl) (by kernel_rfl) (by kernel_rfl) (fun _ _ _ h => h) (Or.inl ⟨by rfl, ?_⟩) (by assumption) ?_
  rotate_left
  · intro w' hSw; (try dsimp only at hSw); first | (go_simp; done) | (go_simp; with_reducible rfl)
  (try simp only [Act.put, List.setIfInBounds_toArray, List.set_cons_zero, List.set_cons_succ])
  refine wpAnyH_take (i := 13) (oi := { dst := some 177, op := Op.move (Operand.tmp 176), type := 4, pos := "laws.go:588", after := #[{ on := 12, ground := Ground.data }, { on := 9, ground := Ground.chain }], guard := none }) (v := ?_) rfl (by kernel_rfl) (by kernel_rfl) (by kernel_rfl) (fun _ _ _ h => h) (Or.inl ⟨by rfl, ?_⟩) (by assumption) ?_
  rotate_left
  · intro w' hSw; (try dsimp only at hSw); first | (go_simp; done) | (go_simp; with_reducible rfl)
  (try simp only [Act.put, List.setIfInBounds_toArray, List.set_cons_zero, List.set_cons_succ])
  refine wpAnyH_take (i := 14) (oi := { dst := some 178, op := Op.move (Operand.tmp 16), type := 4, pos := "laws.go:588", after := #[{ on := 13, ground := Ground.guard }], guard := some (13, false) }) (v := ?_) rfl (by kernel_rfl) (by kernel_rfl) (by kernel_rfl) (fun _ _ _ h => h) (Or.inl ⟨by rfl, ?_⟩) (by assumption) ?_
  rotate_left
  · intro w' hSw; (try dsimp only at hSw); first | (go_simp; done) | (go_simp; with_reducible rfl)
  (try simp only [Act.put, List.setIfInBounds_toArray, List.set_cons_zero, List.set_cons_succ])
  refine wpAnyH_take (i := 15) (oi := { dst := some 179, op := Op.move (Operand.tmp 178), type := 4, pos := "laws.go:588", after := #[{ on := 14, ground := Ground.data }, { on := 13, ground := Ground.chain }, { on := 13, ground := Ground.guard }], guard := some (13, false) }) (v := ?_) rfl (by kernel_rfl) (by kernel_rfl) (by kernel_rfl) (fun _ _ _ h => h) (Or.inl ⟨by rfl, ?_⟩) (by assumption) ?_
  rotate_left
  · intro w' hSw; (try dsimp only at hSw); first | (go_simp; done) | (go_simp; with_reducible rfl)
  (try simp only [Act.put, List.setIfInBounds_toArray, List.set_cons_zero, List.set_cons_succ])
  refine wpAnyH_take (i := 16) (oi := { dst := some 180, op := Op.move (Operand.tmp 12), type := 22, pos := "laws.go:588", after := #[{ on := 15, ground := Ground.guard }], guard := some (15, true) }) (v := ?_) rfl (by kernel_rfl) (by kernel_rfl) (by kernel_rfl) (fun _ _ _ h => h) (Or.inl ⟨by rfl, ?_⟩) (by assumption) ?_
  rotate_left
  · intro w' hSw; (try dsimp only at hSw); first | (go_simp; done) | (go_simp; with_reducible rfl)
  (try simp only [Act.put, List.setIfInBounds_toArray, List.set_cons_zero, List.set_cons_succ])
  refine wpAnyH_take (i := 17) (oi := { dst := some 181, op := Op.move (Operand.tmp 13), type := 3, pos := "laws.go:588", after := #[{ on := 15, ground := Ground.guard }], guard := some (15, true) }) (v := ?_) rfl (by kernel_rfl) (by kernel_rfl) (by kernel_rfl) (fun _ _ _ h => h) (Or.inl ⟨by rfl, ?_⟩) (by assumption) ?_
  rotate_left
  · intro w' hSw; (try dsimp only at hSw); first | (go_simp; done) | (go_simp; with_reducible rfl)
  (try simp only [Act.put, List.setIfInBounds_toArray, List.set_cons_zero, List.set_cons_succ])
  refine wpAnyH_take (i := 18) (oi := { dst := some 182, op := Op.slice 22 (Operand.tmp 180) none (some (Operand.tmp 181)) none, type := 22, pos := "laws.go:588", after := #[{ on := 16, ground := Ground.data }, { on := 17, ground := Ground.data }, { on := 15, ground := Ground.guard }], guard := some (15, true) }) (v := ?_) rfl (by kernel_rfl) (by kernel_rfl) (by kernel_rfl) (fun _ _ _ h => h) (Or.inl ⟨by rfl, ?_⟩) (by assumption) ?_
  rotate_left
  · intro w' hSw; (try dsimp only at hSw); first | (go_simp; done) | (go_simp; with_reducible rfl)
  (try simp only [Act.put, List.setIfInBounds_toArray, List.set_cons_zero, List.set_cons_succ])
  refine wpAnyH_take (i := 19) (oi := { dst := some 183, op := Op.load 26 (Operand.tmp 14), type := 26, pos := "laws.go:588", after := #[{ on := 15, ground := Ground.guard }], guard := some (15, true) }) (v := ?_) rfl (by kernel_rfl) (by kernel_rfl) (by kernel_rfl) (fun _ _ _ h => h) (Or.inl ⟨by rfl, ?_⟩) (by assumption) ?_
  rotate_left
  · intro w' hSw; (try dsimp only at hSw); first | (go_simp; done) | (go_simp; with_reducible rfl)
  (try simp only [Act.put, List.setIfInBounds_toArray, List.set_cons_zero, List.set_cons_succ])
  refine wpAnyH_take (i := 21) (oi := { dst := some 185, op := Op.move (Operand.tmp 12), type := 22, pos := "laws.go:588", after := #[{ on := 15, ground := Ground.guard }], guard := some (15, true) }) (v := ?_) rfl (by kernel_rfl) (by kernel_rfl) (by kernel_rfl) (fun _ _ _ h => h) (Or.inl ⟨by rfl, ?_⟩) (by assumption) ?_
  rotate_left
  · intro w' hSw; (try dsimp only at hSw); first | (go_simp; done) | (go_simp; with_reducible rfl)
  (try simp only [Act.put, List.setIfInBounds_toArray, List.set_cons_zero, List.set_cons_succ])
  refine wpAnyH_take (i := 22) (oi := { dst := some 186, op := Op.move (Operand.tmp 15), type := 3, pos := "laws.go:588", after := #[{ on := 15, ground := Ground.guard }], guard := some (15, true) }) (v := ?_) rfl (by kernel_rfl) (by kernel_rfl) (by kernel_rfl) (fun _ _ _ h => h) (Or.inl ⟨by rfl, ?_⟩) (by assumption) ?_
  rotate_left
  · intro w' hSw; (try dsimp only at hSw); first | (go_simp; done) | (go_simp; with_reducible rfl)
  (try simp only [Act.put, List.setIfInBounds_toArray, List.set_cons_zero, List.set_cons_succ])
  refine wpAnyH_take (i := 23) (oi := { dst := some 187, op := Op.slice 22 (Operand.tmp 185) none (some (Operand.tmp 186)) none, type := 22, pos := "laws.go:588", after := #[{ on := 21, ground := Ground.data }, { on := 22, ground := Ground.data }, { on := 15, ground := Ground.guard }], guard := some (15, true) }) (v := ?_) rfl (by kernel_rfl) (by kernel_rfl) (by kernel_rfl) (fun _ _ _ h => h) (Or.inl ⟨by rfl, ?_⟩) (by assumption) ?_
  rotate_left
  · intro w' hSw; (try dsimp only at hSw); first | (go_simp; done) | (go_simp; with_reducible rfl)
  (try simp only [Act.put, List.setIfInBounds_toArray, List.set_cons_zero, List.set_cons_succ])
  refine wpAnyH_ready (rs := [20]) (by kernel_rfl) (by simp) ?_
  refine AllReadyH.cons (o := { dst := some 184, op := Op.call { callee := Callee.value (Operand.func 22), args := #[Operand.tmp 182, Operand.tmp 183], argTypes := #[22, 26] }, type := 22, pos := "laws.go:588", after := #[{ on := 18, ground := Ground.data }, { on := 19, ground := Ground.data }, { on := 15, ground := Ground.chain }, { on := 15, ground := Ground.guard }], guard := some (15, true) }) rfl (fun K hK => ?_) AllReadyH.nil
  go_simp
  refine (implAppendNameK _ _ (eq.take ii) lm _ (kB_upto Hd_q.out j3) Hd_m.out (by rw [List.length_take]; omega) (by omega)).mono ?_
  rintro e wx ⟨U_s, rfl, o_s, hb⟩
  obtain ⟨x_s, n_s, c_s, rfl, o_s⟩ := kB_shape o_s
  have HS := Lib.hid o_s.at; clear o_s
  replace Hd_x := Lib.hid (Hd_x.out.on hb)
  replace Hd_c := Lib.hid (Hd_c.out.on hb)
  replace Hd_m := Lib.hid (Hd_m.out.on hb)
  replace Hd_q := Lib.hid (Hd_q.out.on hb)
  replace K0_x := Lib.hid ((hb.cell (cell_lt K0_x.out)).trans K0_x.out)
  replace K1_x := Lib.hid ((hb.cell (cell_lt K1_x.out)).trans K1_x.out)
  replace K2_x := Lib.hid ((hb.cell (cell_lt K2_x.out)).trans K2_x.out)
  replace K3_x := Lib.hid ((hb.cell (cell_lt K3_x.out)).trans K3_x.out)
  replace K0_m := Lib.hid ((hb.cell (cell_lt K0_m.out)).trans K0_m.out)
  replace BB := Lib.hid (BB.out.trans (hb.mono BB.out.size)); clear hb
  (try go_wp2_with fail)
  clear hHeld
  refine hK.out _ _ ?_ (fun hHeld => ?_)
  · (try dsimp only); exact ⟨K0_x.out, K1_x.out, K2_x.out, K3_x.out, K0_m.out⟩
  clear hK K
  (try simp only [Act.put, List.setIfInBounds_toArray, List.set_cons_zero, List.set_cons_succ])
  refine wpAnyH_ready (rs := [24]) (by kernel_rfl) (by simp) ?_
  refine AllReadyH.cons (o := { dst := some 188, op := Op.call { callee := Callee.value (Operand.func 19), args := #[Operand.tmp 184, Operand.tmp 187], argTypes := #[22, 22] }, type := 4, pos := "laws.go:588", after := #[{ on := 20, ground := Ground.data }, { on := 23, ground := Ground.data }, { on := 20, ground := Ground.chain }, { on := 15, ground := Ground.guard }], guard := some (15, true) }) rfl (fun K hK => ?_) AllReadyH.nil
  go_simp
  refine (sameBV HA.out HS.out (kB_upto Hd_q.out j4) (by rw [HA.out, List.length_take]; omega)).mono ?_
  rintro e wx ⟨rfl, hb⟩
  clear HS
  replace Hd_x := Lib.hid (Hd_x.out.on hb)
  replace Hd_c := Lib.hid (Hd_c.out.on hb)
  replace Hd_m := Lib.hid (Hd_m.out.on hb)
  replace Hd_q := Lib.hid (Hd_q.out.on hb)
  replace K0_x := Lib.hid ((hb.cell (cell_lt K0_x.out)).trans K0_x.out)
  replace K1_x := Lib.hid ((hb.cell (cell_lt K1_x.out)).trans K1_x.out)
  replace K2_x := Lib.hid ((hb.cell (cell_lt K2_x.out)).trans K2_x.out)
  replace K3_x := Lib.hid ((hb.cell (cell_lt K3_x.out)).trans K3_x.out)
  replace K0_m := Lib.hid ((hb.cell (cell_lt K0_m.out)).trans K0_m.out)
  replace BB := Lib.hid (BB.out.trans (hb.mono BB.out.size)); clear hb
  (try go_wp2_with fail)
  clear hHeld
  refine hK.out _ _ ?_ (fun hHeld => ?_)
  · (try dsimp only); exact ⟨K0_x.out, K1_x.out, K2_x.out, K3_x.out, K0_m.out⟩
  clear hK K
  (try simp only [Act.put, List.setIfInBounds_toArray, List.set_cons_zero, List.set_cons_succ])
  refine wpAnyH_take (i := 25) (oi := { dst := some 189, op := Op.unOp UnOp.not 4 (Operand.tmp 188), type := 4, pos := "laws.go:588", after := #[{ on := 24, ground := Ground.data }, { on := 15, ground := Ground.guard }], guard := some (15, true) }) (v := ?_) rfl (by kernel_rfl) (by kernel_rfl) (by kernel_rfl) (fun _ _ _ h => h) (Or.inl ⟨by rfl, ?_⟩) (by assumption) ?_
  rotate_left
  · intro w' hSw; (try dsimp only at hSw); first | (go_simp; done) | (go_simp; with_reducible rfl)
  (try simp only [Act.put, List.setIfInBounds_toArray, List.set_cons_zero, List.set_cons_succ])
  refine wpAnyH_take (i := 26) (oi := { dst := some 190, op := Op.pick (Operand.tmp 179) (Operand.tmp 189) (Operand.const (Value.bool false)), type := 4, pos := "laws.go:588", after := #[{ on := 15, ground := Ground.data }, { on := 25, ground := Ground.data }, { on := 13, ground := Ground.guard }], guard := some (13, false) }) (v := ?_) rfl (by kernel_rfl) (by kernel_rfl) (by kernel_rfl) (fun _ _ _ h => h) (Or.inl ⟨by rfl, ?_⟩) (by assumption) ?_
  rotate_left
  · intro w' hSw; (try dsimp only at hSw); first | (go_simp; done) | (go_simp; with_reducible rfl)
  (try simp only [Act.put, List.setIfInBounds_toArray, List.set_cons_zero, List.set_cons_succ])
  refine wpAnyH_take (i := 27) (oi := { dst := some 191, op := Op.pick (Operand.tmp 177) (Operand.const (Value.bool true)) (Operand.tmp 190), type := 4, pos := "laws.go:588", after := #[{ on := 13, ground := Ground.data }, { on := 26, ground := Ground.data }], guard := none }) (v := ?_) rfl (by kernel_rfl) (by kernel_rfl) (by kernel_rfl) (fun _ _ _ h => h) (Or.inl ⟨by rfl, ?_⟩) (by assumption) ?_
  rotate_left
  · intro w' hSw; (try dsimp only at hSw); first | (go_simp; done) | (go_simp; with_reducible rfl)
  (try simp only [Act.put, List.setIfInBounds_toArray, List.set_cons_zero, List.set_cons_succ])
  refine wpAnyH_done (by kernel_rfl) ?_ _
  exact NoPanic.normal (HQ.out _ _ _ _ _ _ _ _ _ _ _ _ _ _ _ _ _ _ _ _ _ _ _ _ _ _ _ _ BB.out)

end Go.Proofs.YtnnhgcfelkcpfaaDoor.Row
