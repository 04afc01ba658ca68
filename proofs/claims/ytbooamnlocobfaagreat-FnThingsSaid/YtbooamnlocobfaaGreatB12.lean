/- Contracts and mathematics, joined: RegT12. No conditions but those that each states. -/
import Derived.WalkKit
import Derived.Deep.RegionHeld3
import Derived.Test.YtbooamnlocobfaaGreatB11
/- The great region of FnThings: whatever order is drawn, its last value is false. No conditions. -/
namespace Go.Proofs.YtbooamnlocobfaaGreat.Row
open Go.ChangeShapes Go.WideShapes Go.ChangeAt Go.RowKit Go.Instr
set_option linter.unusedVariables false
set_option maxRecDepth 100000

set_option maxRecDepth 100000 in
set_option maxHeartbeats 4000000 in
theorem regT12 {Q : Exit → Act → World → Prop} {v0 v1 v2 v5 v18 v19 v20 v21 v22 v23 v24 v25 v26 v27 v28 v29 v30 v31 v32 v33 v34 v35 v36 v37 v38 v39 v40 v41 v42 v43 v44 v45 v46 v47 v48 v49 v50 v51 v52 v53 v54 v55 v56 v57 v58 v59 v60 v61 v62 v63 v64 v65 v66 v67 v68 v69 v70 v71 v72 v73 v74 v75 v76 v77 v78 v79 v80 v81 v82 v83 v84 v85 v86 v87 v88 v89 v90 v91 v92 v93 v94 v95 v96 v97 v98 v99 v100 v101 v102 v103 v104 v105 v106 v107 v108 v109 v110 v111 v112 v113 v114 v115 v116 v117 v118 v119 v120 v121 v122 v123 v124 v125 v126 v127 v128 v129 v130 v131 v132 v133 v134 v135 v136 v137 v138 v139 v140 v141 v142 v143 v144 v145 v146 v147 v148 v149 v150 v151 v152 v153 v154 v155 v156 v157 v158 v159 v160 v161 v162 v163 v164 v165 v166 v167 v168 v169 v170 v171 v172 v173 v174 v175 v176 v177 v178 v179 v180 v181 v182 v183 v184 v185 v186 v187 v188 v189 v190 v191 v192 v193 v194 v195 v196 v197 v198 v199 v200 v201 v202 v203 v204 v205 v206 v207 v208 v209 v210 v211 v212 v213 v214 v215 v216 v217 v218 v219 v220 v221 v222 v223 v224 v225 v226 v227 v228 v229 v230 v231 v232 v233 v234 v235 v236 v237 v238 : Value} {w : World} {bw bx by_ bs br ba bd bf : Nat} {ok q1 q2 q3 q4 : Bool} {tk tg now : Int} {x_wa : Option Addr} {n_wa c_wa : Nat} {x_wb : Option Addr} {n_wb c_wb : Nat} {x_wc : Option Addr} {n_wc c_wc : Nat} {x_xa : Option Addr} {n_xa c_xa : Nat} {x_xb : Option Addr} {n_xb c_xb : Nat} {x_xc : Option Addr} {n_xc c_xc : Nat} {x_ya : Option Addr} {n_ya c_ya : Nat} {x_yb : Option Addr} {n_yb c_yb : Nat} {x_yc : Option Addr} {n_yc c_yc : Nat} {x_sa : Option Addr} {n_sa c_sa : Nat} {x_sb : Option Addr} {n_sb c_sb : Nat} {x_sc : Option Addr} {n_sc c_sc : Nat} {x_ra : Option Addr} {n_ra c_ra : Nat} {x_rb : Option Addr} {n_rb c_rb : Nat} {x_rc : Option Addr} {n_rc c_rc : Nat} {x_aa : Option Addr} {n_aa c_aa : Nat} {x_ab : Option Addr} {n_ab c_ab : Nat} {x_ac : Option Addr} {n_ac c_ac : Nat} {x_da : Option Addr} {n_da c_da : Nat} {x_db : Option Addr} {n_db c_db : Nat} {x_dc : Option Addr} {n_dc c_dc : Nat} {x_fa : Option Addr} {n_fa c_fa : Nat} {x_fb : Option Addr} {n_fb c_fb : Nat} {x_fc : Option Addr} {n_fc c_fc : Nat} {x_b : Option Addr} {n_b c_b : Nat} {xw xx xs xr xa xd xf : Dt} {eb : List Int} (H_w : Hid (kD.At w (.agg #[.slice x_wa n_wa c_wa, .slice x_wb n_wb c_wb, .slice x_wc n_wc c_wc, .int .i64 xw.2.2.2.1, .int .i64 xw.2.2.2.2]) xw)) (H_x : Hid (kD.At w (.agg #[.slice x_xa n_xa c_xa, .slice x_xb n_xb c_xb, .slice x_xc n_xc c_xc, .int .i64 xx.2.2.2.1, .int .i64 xx.2.2.2.2]) xx)) (H_y : Hid (kD.At w (.agg #[.slice x_ya n_ya c_ya, .slice x_yb n_yb c_yb, .slice x_yc n_yc c_yc, .int .i64 xx.2.2.2.1, .int .i64 xx.2.2.2.2]) xx)) (H_s : Hid (kD.At w (.agg #[.slice x_sa n_sa c_sa, .slice x_sb n_sb c_sb, .slice x_sc n_sc c_sc, .int .i64 xs.2.2.2.1, .int .i64 xs.2.2.2.2]) xs)) (H_r : Hid (kD.At w (.agg #[.slice x_ra n_ra c_ra, .slice x_rb n_rb c_rb, .slice x_rc n_rc c_rc, .int .i64 xr.2.2.2.1, .int .i64 xr.2.2.2.2]) xr)) (H_a : Hid (kD.At w (.agg #[.slice x_aa n_aa c_aa, .slice x_ab n_ab c_ab, .slice x_ac n_ac c_ac, .int .i64 xa.2.2.2.1, .int .i64 xa.2.2.2.2]) xa)) (H_d : Hid (kD.At w (.agg #[.slice x_da n_da c_da, .slice x_db n_db c_db, .slice x_dc n_dc c_dc, .int .i64 xd.2.2.2.1, .int .i64 xd.2.2.2.2]) xd)) (H_f : Hid (kD.At w (.agg #[.slice x_fa n_fa c_fa, .slice x_fb n_fb c_fb, .slice x_fc n_fc c_fc, .int .i64 xf.2.2.2.1, .int .i64 xf.2.2.2.2]) xf)) (H_b : Hid (kB.At w (.slice x_b n_b c_b) eb)) (HEB : Hid (eb = encD xw)) (HYX : Hid (Sl.Byt xx.2.1)) (HWw : Hid (WfD xw)) (HWs : Hid (WfD xs)) (HWr : Hid (WfD xr)) (HWa : Hid (WfD xa)) (HWd : Hid (WfD xd)) (HQ1 : Hid (verD tg xr = q1)) (HQ2 : Hid (eqD xa xd = q2)) (HQ3 : Hid (decide (now ≤ xf.2.2.2.1) = q3)) (HQ4 : Hid (validD xw = q4)) (h1 : bulkD xw ≤ 3000) (h2 : bulkD xx ≤ 3000) (h3 : bulkD xs ≤ 3000) (h4 : bulkD xr ≤ 3000) (h5 : bulkD xa ≤ 3000) (h6 : bulkD xd ≤ 3000) (h7 : eb.length ≤ 1000000) (K0_w : Hid (w.cell? ⟨bw, 0, none⟩ = some (.slice x_wa n_wa c_wa))) (K1_w : Hid (w.cell? ⟨bw, 1, none⟩ = some (.slice x_wb n_wb c_wb))) (K2_w : Hid (w.cell? ⟨bw, 2, none⟩ = some (.slice x_wc n_wc c_wc))) (K3_w : Hid (w.cell? ⟨bw, 3, none⟩ = some (.int .i64 xw.2.2.2.1))) (K4_w : Hid (w.cell? ⟨bw, 4, none⟩ = some (.int .i64 xw.2.2.2.2))) (K0_x : Hid (w.cell? ⟨bx, 0, none⟩ = some (.slice x_xa n_xa c_xa))) (K1_x : Hid (w.cell? ⟨bx, 1, none⟩ = some (.slice x_xb n_xb c_xb))) (K2_x : Hid (w.cell? ⟨bx, 2, none⟩ = some (.slice x_xc n_xc c_xc))) (K3_x : Hid (w.cell? ⟨bx, 3, none⟩ = some (.int .i64 xx.2.2.2.1))) (K4_x : Hid (w.cell? ⟨bx, 4, none⟩ = some (.int .i64 xx.2.2.2.2))) (K0_y : Hid (w.cell? ⟨by_, 0, none⟩ = some (.slice x_ya n_ya c_ya))) (K1_y : Hid (w.cell? ⟨by_, 1, none⟩ = some (.slice x_yb n_yb c_yb))) (K2_y : Hid (w.cell? ⟨by_, 2, none⟩ = some (.slice x_yc n_yc c_yc))) (K3_y : Hid (w.cell? ⟨by_, 3, none⟩ = some (.int .i64 xx.2.2.2.1))) (K4_y : Hid (w.cell? ⟨by_, 4, none⟩ = some (.int .i64 xx.2.2.2.2))) (K0_s : Hid (w.cell? ⟨bs, 0, none⟩ = some (.slice x_sa n_sa c_sa))) (K1_s : Hid (w.cell? ⟨bs, 1, none⟩ = some (.slice x_sb n_sb c_sb))) (K2_s : Hid (w.cell? ⟨bs, 2, none⟩ = some (.slice x_sc n_sc c_sc))) (K3_s : Hid (w.cell? ⟨bs, 3, none⟩ = some (.int .i64 xs.2.2.2.1))) (K4_s : Hid (w.cell? ⟨bs, 4, none⟩ = some (.int .i64 xs.2.2.2.2))) (K0_r : Hid (w.cell? ⟨br, 0, none⟩ = some (.slice x_ra n_ra c_ra))) (K1_r : Hid (w.cell? ⟨br, 1, none⟩ = some (.slice x_rb n_rb c_rb))) (K2_r : Hid (w.cell? ⟨br, 2, none⟩ = some (.slice x_rc n_rc c_rc))) (K3_r : Hid (w.cell? ⟨br, 3, none⟩ = some (.int .i64 xr.2.2.2.1))) (K4_r : Hid (w.cell? ⟨br, 4, none⟩ = some (.int .i64 xr.2.2.2.2))) (K0_a : Hid (w.cell? ⟨ba, 0, none⟩ = some (.slice x_aa n_aa c_aa))) (K1_a : Hid (w.cell? ⟨ba, 1, none⟩ = some (.slice x_ab n_ab c_ab))) (K2_a : Hid (w.cell? ⟨ba, 2, none⟩ = some (.slice x_ac n_ac c_ac))) (K3_a : Hid (w.cell? ⟨ba, 3, none⟩ = some (.int .i64 xa.2.2.2.1))) (K4_a : Hid (w.cell? ⟨ba, 4, none⟩ = some (.int .i64 xa.2.2.2.2))) (K0_d : Hid (w.cell? ⟨bd, 0, none⟩ = some (.slice x_da n_da c_da))) (K1_d : Hid (w.cell? ⟨bd, 1, none⟩ = some (.slice x_db n_db c_db))) (K2_d : Hid (w.cell? ⟨bd, 2, none⟩ = some (.slice x_dc n_dc c_dc))) (K3_d : Hid (w.cell? ⟨bd, 3, none⟩ = some (.int .i64 xd.2.2.2.1))) (K4_d : Hid (w.cell? ⟨bd, 4, none⟩ = some (.int .i64 xd.2.2.2.2))) (K0_f : Hid (w.cell? ⟨bf, 0, none⟩ = some (.slice x_fa n_fa c_fa))) (K1_f : Hid (w.cell? ⟨bf, 1, none⟩ = some (.slice x_fb n_fb c_fb))) (K2_f : Hid (w.cell? ⟨bf, 2, none⟩ = some (.slice x_fc n_fc c_fc))) (K3_f : Hid (w.cell? ⟨bf, 3, none⟩ = some (.int .i64 xf.2.2.2.1))) (K4_f : Hid (w.cell? ⟨bf, 4, none⟩ = some (.int .i64 xf.2.2.2.2)))
    (hQ : ∀ (u63 u64 u65 u66 u67 u68 u69 u70 u71 u72 u73 u74 u75 u76 u77 u78 u79 u80 u81 u82 u83 u84 u85 u86 u87 u88 u89 u90 u91 u92 u93 u94 u95 u96 u97 u98 u99 u100 u101 u102 u103 u104 u105 u106 u107 u108 u109 u110 u111 u112 u113 u114 u115 u116 u117 u118 u119 u120 u121 u122 u123 u124 u125 u126 u127 u128 u129 : Value)  (wx : World), Below w.heap.size w wx → Q .normal ⟨#[v0, v1, v2, .pointer (some ⟨bw, 0, none⟩), .slice x_b n_b c_b, v5, .pointer (some ⟨bx, 0, none⟩), .bool ok, .pointer (some ⟨by_, 0, none⟩), .bool ok, .int .i64 tk, .pointer (some ⟨bs, 0, none⟩), .int .i64 tg, .pointer (some ⟨br, 0, none⟩), .pointer (some ⟨ba, 0, none⟩), .pointer (some ⟨bd, 0, none⟩), .pointer (some ⟨bf, 0, none⟩), .int .i64 now, v18, v19, v20, v21, v22, v23, v24, v25, v26, v27, v28, v29, v30, v31, v32, v33, v34, v35, v36, v37, v38, v39, v40, v41, v42, v43, v44, v45, v46, v47, v48, v49, v50, v51, v52, v53, v54, v55, v56, v57, v58, v59, v60, v61, v62, u63, u64, u65, u66, u67, u68, u69, u70, u71, u72, u73, u74, u75, u76, u77, u78, u79, u80, u81, u82, u83, u84, u85, u86, u87, u88, u89, u90, u91, u92, u93, u94, u95, u96, u97, u98, u99, u100, u101, u102, u103, u104, u105, u106, u107, u108, u109, u110, u111, u112, u113, u114, u115, u116, u117, u118, u119, u120, u121, u122, u123, u124, u125, u126, u127, u128, u129, .bool false, v131, v132, v133, v134, v135, v136, v137, v138, v139, v140, v141, v142, v143, v144, v145, v146, v147, v148, v149, v150, v151, v152, v153, v154, v155, v156, v157, v158, v159, v160, v161, v162, v163, v164, v165, v166, v167, v168, v169, v170, v171, v172, v173, v174, v175, v176, v177, v178, v179, v180, v181, v182, v183, v184, v185, v186, v187, v188, v189, v190, v191, v192, v193, v194, v195, v196, v197, v198, v199, v200, v201, v202, v203, v204, v205, v206, v207, v208, v209, v210, v211, v212, v213, v214, v215, v216, v217, v218, v219, v220, v221, v222, v223, v224, v225, v226, v227, v228, v229, v230, v231, v232, v233, v234, v235, v236, v237, v238], []⟩ wx) :
    (Code.region 12 #[{ dst := some 63, op := Op.move (Operand.tmp 4), type := 22, pos := "laws.go:609", after := #[], guard := none },
      { dst := some 64, op := Op.load 28 (Operand.tmp 3), type := 28, pos := "laws.go:609", after := #[], guard := none },
      { dst := some 65, op := Op.call { callee := Callee.value (Operand.func 15), args := #[Operand.tmp 64], argTypes := #[28] }, type := 22, pos := "laws.go:609", after := #[{ on := 1, ground := Ground.data }], guard := none },
      { dst := some 66, op := Op.call { callee := Callee.value (Operand.func 14), args := #[Operand.tmp 63, Operand.tmp 65], argTypes := #[22, 22] }, type := 4, pos := "laws.go:609", after := #[{ on := 0, ground := Ground.data }, { on := 2, ground := Ground.data }, { on := 2, ground := Ground.chain }], guard := none },
      { dst := some 67, op := Op.unOp UnOp.not 4 (Operand.tmp 66), type := 4, pos := "laws.go:609", after := #[{ on := 3, ground := Ground.data }], guard := none },
      { dst := some 68, op := Op.move (Operand.tmp 67), type := 4, pos := "laws.go:609", after := #[{ on := 4, ground := Ground.data }, { on := 3, ground := Ground.chain }], guard := none },
      { dst := some 69, op := Op.load 28 (Operand.tmp 6), type := 28, pos := "laws.go:609", after := #[{ on := 5, ground := Ground.guard }], guard := some (5, false) },
      { dst := some 70, op := Op.load 28 (Operand.tmp 8), type := 28, pos := "laws.go:609", after := #[{ on := 5, ground := Ground.guard }], guard := some (5, false) },
      { dst := some 71, op := Op.call { callee := Callee.value (Operand.func 16), args := #[Operand.tmp 69, Operand.tmp 70], argTypes := #[28, 28] }, type := 4, pos := "laws.go:609", after := #[{ on := 6, ground := Ground.data }, { on := 7, ground := Ground.data }, { on := 5, ground := Ground.chain }, { on := 5, ground := Ground.guard }], guard := some (5, false) },
      { dst := some 72, op := Op.unOp UnOp.not 4 (Operand.tmp 71), type := 4, pos := "laws.go:609", after := #[{ on := 8, ground := Ground.data }, { on := 5, ground := Ground.guard }], guard := some (5, false) },
      { dst := some 73, op := Op.pick (Operand.tmp 68) (Operand.const (Value.bool true)) (Operand.tmp 72), type := 4, pos := "laws.go:609", after := #[{ on := 5, ground := Ground.data }, { on := 9, ground := Ground.data }], guard := none },
      { dst := some 74, op := Op.move (Operand.tmp 73), type := 4, pos := "laws.go:609", after := #[{ on := 10, ground := Ground.data }, { on := 8, ground := Ground.chain }], guard := none },
      { dst := some 75, op := Op.move (Operand.tmp 7), type := 4, pos := "laws.go:609", after := #[{ on := 11, ground := Ground.guard }], guard := some (11, false) },
      { dst := some 76, op := Op.move (Operand.tmp 9), type := 4, pos := "laws.go:609", after := #[{ on := 11, ground := Ground.guard }], guard := some (11, false) },
      { dst := some 77, op := Op.binOp BinOp.neq 4 (Operand.tmp 75) (Operand.tmp 76) 4, type := 4, pos := "laws.go:609", after := #[{ on := 12, ground := Ground.data }, { on := 13, ground := Ground.data }, { on := 11, ground := Ground.guard }], guard := some (11, false) },
      { dst := some 78, op := Op.pick (Operand.tmp 74) (Operand.const (Value.bool true)) (Operand.tmp 77), type := 4, pos := "laws.go:609", after := #[{ on := 11, ground := Ground.data }, { on := 14, ground := Ground.data }], guard := none },
      { dst := some 79, op := Op.move (Operand.tmp 78), type := 4, pos := "laws.go:609", after := #[{ on := 15, ground := Ground.data }, { on := 11, ground := Ground.chain }], guard := none },
      { dst := some 80, op := Op.move (Operand.tmp 10), type := 3, pos := "laws.go:609", after := #[{ on := 16, ground := Ground.guard }], guard := some (16, false) },
      { dst := some 81, op := Op.load 28 (Operand.tmp 11), type := 28, pos := "laws.go:609", after := #[{ on := 16, ground := Ground.guard }], guard := some (16, false) },
      { dst := some 82, op := Op.call { callee := Callee.value (Operand.func 17), args := #[Operand.tmp 80, Operand.tmp 81], argTypes := #[3, 28] }, type := 28, pos := "laws.go:609", after := #[{ on := 17, ground := Ground.data }, { on := 18, ground := Ground.data }, { on := 16, ground := Ground.chain }, { on := 16, ground := Ground.guard }], guard := some (16, false) },
      { dst := some 83, op := Op.move (Operand.tmp 10), type := 3, pos := "laws.go:609", after := #[{ on := 16, ground := Ground.guard }], guard := some (16, false) },
      { dst := some 84, op := Op.load 28 (Operand.tmp 11), type := 28, pos := "laws.go:609", after := #[{ on := 16, ground := Ground.guard }], guard := some (16, false) },
      { dst := some 85, op := Op.call { callee := Callee.value (Operand.func 18), args := #[Operand.tmp 83, Operand.tmp 84], argTypes := #[3, 28] }, type := 28, pos := "laws.go:609", after := #[{ on := 20, ground := Ground.data }, { on := 21, ground := Ground.data }, { on := 19, ground := Ground.chain }, { on := 16, ground := Ground.guard }], guard := some (16, false) },
      { dst := some 86, op := Op.call { callee := Callee.value (Operand.func 16), args := #[Operand.tmp 82, Operand.tmp 85], argTypes := #[28, 28] }, type := 4, pos := "laws.go:609", after := #[{ on := 19, ground := Ground.data }, { on := 22, ground := Ground.data }, { on := 22, ground := Ground.chain }, { on := 16, ground := Ground.guard }], guard := some (16, false) },
      { dst := some 87, op := Op.unOp UnOp.not 4 (Operand.tmp 86), type := 4, pos := "laws.go:609", after := #[{ on := 23, ground := Ground.data }, { on := 16, ground := Ground.guard }], guard := some (16, false) },
      { dst := some 88, op := Op.pick (Operand.tmp 79) (Operand.const (Value.bool true)) (Operand.tmp 87), type := 4, pos := "laws.go:609", after := #[{ on := 16, ground := Ground.data }, { on := 24, ground := Ground.data }], guard := none },
      { dst := some 89, op := Op.move (Operand.tmp 88), type := 4, pos := "laws.go:609", after := #[{ on := 25, ground := Ground.data }, { on := 23, ground := Ground.chain }], guard := none },
      { dst := some 90, op := Op.move (Operand.tmp 12), type := 3, pos := "laws.go:609", after := #[{ on := 26, ground := Ground.guard }], guard := some (26, false) },
      { dst := some 91, op := Op.load 28 (Operand.tmp 13), type := 28, pos := "laws.go:609", after := #[{ on := 26, ground := Ground.guard }], guard := some (26, false) },
      { dst := some 92, op := Op.call { callee := Callee.value (Operand.func 19), args := #[Operand.tmp 90, Operand.tmp 91], argTypes := #[3, 28] }, type := 4, pos := "laws.go:609", after := #[{ on := 27, ground := Ground.data }, { on := 28, ground := Ground.data }, { on := 26, ground := Ground.chain }, { on := 26, ground := Ground.guard }], guard := some (26, false) },
      { dst := some 93, op := Op.move (Operand.tmp 12), type := 3, pos := "laws.go:609", after := #[{ on := 26, ground := Ground.guard }], guard := some (26, false) },
      { dst := some 94, op := Op.load 28 (Operand.tmp 13), type := 28, pos := "laws.go:609", after := #[{ on := 26, ground := Ground.guard }], guard := some (26, false) },
      { dst := some 95, op := Op.call { callee := Callee.value (Operand.func 20), args := #[Operand.tmp 93, Operand.tmp 94], argTypes := #[3, 28] }, type := 4, pos := "laws.go:609", after := #[{ on := 30, ground := Ground.data }, { on := 31, ground := Ground.data }, { on := 29, ground := Ground.chain }, { on := 26, ground := Ground.guard }], guard := some (26, false) },
      { dst := some 96, op := Op.binOp BinOp.neq 4 (Operand.tmp 92) (Operand.tmp 95) 4, type := 4, pos := "laws.go:609", after := #[{ on := 29, ground := Ground.data }, { on := 32, ground := Ground.data }, { on := 26, ground := Ground.guard }], guard := some (26, false) },
      { dst := some 97, op := Op.pick (Operand.tmp 89) (Operand.const (Value.bool true)) (Operand.tmp 96), type := 4, pos := "laws.go:609", after := #[{ on := 26, ground := Ground.data }, { on := 33, ground := Ground.data }], guard := none },
      { dst := some 98, op := Op.move (Operand.tmp 97), type := 4, pos := "laws.go:609", after := #[{ on := 34, ground := Ground.data }, { on := 32, ground := Ground.chain }], guard := none },
      { dst := some 99, op := Op.load 28 (Operand.tmp 14), type := 28, pos := "laws.go:609", after := #[{ on := 35, ground := Ground.guard }], guard := some (35, false) },
      { dst := some 100, op := Op.load 28 (Operand.tmp 15), type := 28, pos := "laws.go:609", after := #[{ on := 35, ground := Ground.guard }], guard := some (35, false) },
      { dst := some 101, op := Op.call { callee := Callee.value (Operand.func 21), args := #[Operand.tmp 99, Operand.tmp 100], argTypes := #[28, 28] }, type := 4, pos := "laws.go:609", after := #[{ on := 36, ground := Ground.data }, { on := 37, ground := Ground.data }, { on := 35, ground := Ground.chain }, { on := 35, ground := Ground.guard }], guard := some (35, false) },
      { dst := some 102, op := Op.load 28 (Operand.tmp 14), type := 28, pos := "laws.go:609", after := #[{ on := 35, ground := Ground.guard }], guard := some (35, false) },
      { dst := some 103, op := Op.load 28 (Operand.tmp 15), type := 28, pos := "laws.go:609", after := #[{ on := 35, ground := Ground.guard }], guard := some (35, false) },
      { dst := some 104, op := Op.call { callee := Callee.value (Operand.func 16), args := #[Operand.tmp 102, Operand.tmp 103], argTypes := #[28, 28] }, type := 4, pos := "laws.go:609", after := #[{ on := 39, ground := Ground.data }, { on := 40, ground := Ground.data }, { on := 38, ground := Ground.chain }, { on := 35, ground := Ground.guard }], guard := some (35, false) },
      { dst := some 105, op := Op.binOp BinOp.neq 4 (Operand.tmp 101) (Operand.tmp 104) 4, type := 4, pos := "laws.go:609", after := #[{ on := 38, ground := Ground.data }, { on := 41, ground := Ground.data }, { on := 35, ground := Ground.guard }], guard := some (35, false) },
      { dst := some 106, op := Op.pick (Operand.tmp 98) (Operand.const (Value.bool true)) (Operand.tmp 105), type := 4, pos := "laws.go:609", after := #[{ on := 35, ground := Ground.data }, { on := 42, ground := Ground.data }], guard := none },
      { dst := some 107, op := Op.move (Operand.tmp 106), type := 4, pos := "laws.go:609", after := #[{ on := 43, ground := Ground.data }, { on := 41, ground := Ground.chain }], guard := none },
      { dst := some 108, op := Op.load 28 (Operand.tmp 16), type := 28, pos := "laws.go:609", after := #[{ on := 44, ground := Ground.guard }], guard := some (44, false) },
      { dst := some 109, op := Op.move (Operand.tmp 17), type := 3, pos := "laws.go:609", after := #[{ on := 44, ground := Ground.guard }], guard := some (44, false) },
      { dst := some 110, op := Op.call { callee := Callee.value (Operand.func 22), args := #[Operand.tmp 108, Operand.tmp 109], argTypes := #[28, 3] }, type := 4, pos := "laws.go:609", after := #[{ on := 45, ground := Ground.data }, { on := 46, ground := Ground.data }, { on := 44, ground := Ground.chain }, { on := 44, ground := Ground.guard }], guard := some (44, false) },
      { dst := some 111, op := Op.load 28 (Operand.tmp 16), type := 28, pos := "laws.go:609", after := #[{ on := 44, ground := Ground.guard }], guard := some (44, false) },
      { dst := some 112, op := Op.move (Operand.tmp 17), type := 3, pos := "laws.go:609", after := #[{ on := 44, ground := Ground.guard }], guard := some (44, false) },
      { dst := some 113, op := Op.call { callee := Callee.value (Operand.func 23), args := #[Operand.tmp 111, Operand.tmp 112], argTypes := #[28, 3] }, type := 4, pos := "laws.go:609", after := #[{ on := 48, ground := Ground.data }, { on := 49, ground := Ground.data }, { on := 47, ground := Ground.chain }, { on := 44, ground := Ground.guard }], guard := some (44, false) },
      { dst := some 114, op := Op.binOp BinOp.neq 4 (Operand.tmp 110) (Operand.tmp 113) 4, type := 4, pos := "laws.go:609", after := #[{ on := 47, ground := Ground.data }, { on := 50, ground := Ground.data }, { on := 44, ground := Ground.guard }], guard := some (44, false) },
      { dst := some 115, op := Op.pick (Operand.tmp 107) (Operand.const (Value.bool true)) (Operand.tmp 114), type := 4, pos := "laws.go:609", after := #[{ on := 44, ground := Ground.data }, { on := 51, ground := Ground.data }], guard := none },
      { dst := some 116, op := Op.move (Operand.tmp 115), type := 4, pos := "laws.go:609", after := #[{ on := 52, ground := Ground.data }, { on := 50, ground := Ground.chain }], guard := none },
      { dst := some 117, op := Op.load 28 (Operand.tmp 3), type := 28, pos := "laws.go:609", after := #[{ on := 53, ground := Ground.guard }], guard := some (53, false) },
      { dst := some 118, op := Op.call { callee := Callee.value (Operand.func 24), args := #[Operand.tmp 117], argTypes := #[28] }, type := 4, pos := "laws.go:609", after := #[{ on := 54, ground := Ground.data }, { on := 53, ground := Ground.chain }, { on := 53, ground := Ground.guard }], guard := some (53, false) },
      { dst := some 119, op := Op.load 28 (Operand.tmp 3), type := 28, pos := "laws.go:609", after := #[{ on := 53, ground := Ground.guard }], guard := some (53, false) },
      { dst := some 120, op := Op.call { callee := Callee.value (Operand.func 25), args := #[Operand.tmp 119], argTypes := #[28] }, type := 4, pos := "laws.go:609", after := #[{ on := 56, ground := Ground.data }, { on := 55, ground := Ground.chain }, { on := 53, ground := Ground.guard }], guard := some (53, false) },
      { dst := some 121, op := Op.binOp BinOp.neq 4 (Operand.tmp 118) (Operand.tmp 120) 4, type := 4, pos := "laws.go:609", after := #[{ on := 55, ground := Ground.data }, { on := 57, ground := Ground.data }, { on := 53, ground := Ground.guard }], guard := some (53, false) },
      { dst := some 122, op := Op.pick (Operand.tmp 116) (Operand.const (Value.bool true)) (Operand.tmp 121), type := 4, pos := "laws.go:609", after := #[{ on := 53, ground := Ground.data }, { on := 58, ground := Ground.data }], guard := none },
      { dst := some 123, op := Op.move (Operand.tmp 122), type := 4, pos := "laws.go:609", after := #[{ on := 59, ground := Ground.data }, { on := 57, ground := Ground.chain }], guard := none },
      { dst := some 124, op := Op.load 28 (Operand.tmp 3), type := 28, pos := "laws.go:609", after := #[{ on := 60, ground := Ground.guard }], guard := some (60, false) },
      { dst := some 125, op := Op.call { callee := Callee.value (Operand.func 27), args := #[Operand.tmp 124], argTypes := #[28] }, type := 47, pos := "laws.go:609", after := #[{ on := 61, ground := Ground.data }, { on := 60, ground := Ground.chain }, { on := 60, ground := Ground.guard }], guard := some (60, false) },
      { dst := some 126, op := Op.load 28 (Operand.tmp 3), type := 28, pos := "laws.go:609", after := #[{ on := 60, ground := Ground.guard }], guard := some (60, false) },
      { dst := some 127, op := Op.call { callee := Callee.value (Operand.func 28), args := #[Operand.tmp 126], argTypes := #[28] }, type := 47, pos := "laws.go:609", after := #[{ on := 63, ground := Ground.data }, { on := 62, ground := Ground.chain }, { on := 60, ground := Ground.guard }], guard := some (60, false) },
      { dst := some 128, op := Op.call { callee := Callee.value (Operand.func 26), args := #[Operand.tmp 125, Operand.tmp 127], argTypes := #[47, 47] }, type := 4, pos := "laws.go:609", after := #[{ on := 62, ground := Ground.data }, { on := 64, ground := Ground.data }, { on := 64, ground := Ground.chain }, { on := 60, ground := Ground.guard }], guard := some (60, false) },
      { dst := some 129, op := Op.unOp UnOp.not 4 (Operand.tmp 128), type := 4, pos := "laws.go:609", after := #[{ on := 65, ground := Ground.data }, { on := 60, ground := Ground.guard }], guard := some (60, false) },
      { dst := some 130, op := Op.pick (Operand.tmp 123) (Operand.const (Value.bool true)) (Operand.tmp 129), type := 4, pos := "laws.go:609", after := #[{ on := 60, ground := Ground.data }, { on := 66, ground := Ground.data }], guard := none }] true).wp Tryz.prog Q ⟨#[v0, v1, v2, .pointer (some ⟨bw, 0, none⟩), .slice x_b n_b c_b, v5, .pointer (some ⟨bx, 0, none⟩), .bool ok, .pointer (some ⟨by_, 0, none⟩), .bool ok, .int .i64 tk, .pointer (some ⟨bs, 0, none⟩), .int .i64 tg, .pointer (some ⟨br, 0, none⟩), .pointer (some ⟨ba, 0, none⟩), .pointer (some ⟨bd, 0, none⟩), .pointer (some ⟨bf, 0, none⟩), .int .i64 now, v18, v19, v20, v21, v22, v23, v24, v25, v26, v27, v28, v29, v30, v31, v32, v33, v34, v35, v36, v37, v38, v39, v40, v41, v42, v43, v44, v45, v46, v47, v48, v49, v50, v51, v52, v53, v54, v55, v56, v57, v58, v59, v60, v61, v62, v63, v64, v65, v66, v67, v68, v69, v70, v71, v72, v73, v74, v75, v76, v77, v78, v79, v80, v81, v82, v83, v84, v85, v86, v87, v88, v89, v90, v91, v92, v93, v94, v95, v96, v97, v98, v99, v100, v101, v102, v103, v104, v105, v106, v107, v108, v109, v110, v111, v112, v113, v114, v115, v116, v117, v118, v119, v120, v121, v122, v123, v124, v125, v126, v127, v128, v129, v130, v131, v132, v133, v134, v135, v136, v137, v138, v139, v140, v141, v142, v143, v144, v145, v146, v147, v148, v149, v150, v151, v152, v153, v154, v155, v156, v157, v158, v159, v160, v161, v162, v163, v164, v165, v166, v167, v168, v169, v170, v171, v172, v173, v174, v175, v176, v177, v178, v179, v180, v181, v182, v183, v184, v185, v186, v187, v188, v189, v190, v191, v192, v193, v194, v195, v196, v197, v198, v199, v200, v201, v202, v203, v204, v205, v206, v207, v208, v209, v210, v211, v212, v213, v214, v215, v216, v217, v218, v219, v220, v221, v222, v223, v224, v225, v226, v227, v228, v229, v230, v231, v232, v233, v234, v235, v236, v237, v238], []⟩ w := by
  have HQ := Lib.hid hQ; clear hQ
  have hdr : Below w.heap.size w w.drew := (Below.refl _ _).drew
  have BB := Lib.hid hdr
  refine wp_region_noPanic ?_
  refine wp_region_held_drew (S := (fun w' => w'.cell? ⟨bw, 0, none⟩ = some (.slice x_wa n_wa c_wa) ∧ w'.cell? ⟨bw, 1, none⟩ = some (.slice x_wb n_wb c_wb) ∧ w'.cell? ⟨bw, 2, none⟩ = some (.slice x_wc n_wc c_wc) ∧ w'.cell? ⟨bw, 3, none⟩ = some (.int .i64 xw.2.2.2.1) ∧ w'.cell? ⟨bw, 4, none⟩ = some (.int .i64 xw.2.2.2.2) ∧ w'.cell? ⟨bx, 0, none⟩ = some (.slice x_xa n_xa c_xa) ∧ w'.cell? ⟨bx, 1, none⟩ = some (.slice x_xb n_xb c_xb) ∧ w'.cell? ⟨bx, 2, none⟩ = some (.slice x_xc n_xc c_xc) ∧ w'.cell? ⟨bx, 3, none⟩ = some (.int .i64 xx.2.2.2.1) ∧ w'.cell? ⟨bx, 4, none⟩ = some (.int .i64 xx.2.2.2.2) ∧ w'.cell? ⟨by_, 0, none⟩ = some (.slice x_ya n_ya c_ya) ∧ w'.cell? ⟨by_, 1, none⟩ = some (.slice x_yb n_yb c_yb) ∧ w'.cell? ⟨by_, 2, none⟩ = some (.slice x_yc n_yc c_yc) ∧ w'.cell? ⟨by_, 3, none⟩ = some (.int .i64 xx.2.2.2.1) ∧ w'.cell? ⟨by_, 4, none⟩ = some (.int .i64 xx.2.2.2.2) ∧ w'.cell? ⟨bs, 0, none⟩ = some (.slice x_sa n_sa c_sa) ∧ w'.cell? ⟨bs, 1, none⟩ = some (.slice x_sb n_sb c_sb) ∧ w'.cell? ⟨bs, 2, none⟩ = some (.slice x_sc n_sc c_sc) ∧ w'.cell? ⟨bs, 3, none⟩ = some (.int .i64 xs.2.2.2.1) ∧ w'.cell? ⟨bs, 4, none⟩ = some (.int .i64 xs.2.2.2.2) ∧ w'.cell? ⟨br, 0, none⟩ = some (.slice x_ra n_ra c_ra) ∧ w'.cell? ⟨br, 1, none⟩ = some (.slice x_rb n_rb c_rb) ∧ w'.cell? ⟨br, 2, none⟩ = some (.slice x_rc n_rc c_rc) ∧ w'.cell? ⟨br, 3, none⟩ = some (.int .i64 xr.2.2.2.1) ∧ w'.cell? ⟨br, 4, none⟩ = some (.int .i64 xr.2.2.2.2) ∧ w'.cell? ⟨ba, 0, none⟩ = some (.slice x_aa n_aa c_aa) ∧ w'.cell? ⟨ba, 1, none⟩ = some (.slice x_ab n_ab c_ab) ∧ w'.cell? ⟨ba, 2, none⟩ = some (.slice x_ac n_ac c_ac) ∧ w'.cell? ⟨ba, 3, none⟩ = some (.int .i64 xa.2.2.2.1) ∧ w'.cell? ⟨ba, 4, none⟩ = some (.int .i64 xa.2.2.2.2) ∧ w'.cell? ⟨bd, 0, none⟩ = some (.slice x_da n_da c_da) ∧ w'.cell? ⟨bd, 1, none⟩ = some (.slice x_db n_db c_db) ∧ w'.cell? ⟨bd, 2, none⟩ = some (.slice x_dc n_dc c_dc) ∧ w'.cell? ⟨bd, 3, none⟩ = some (.int .i64 xd.2.2.2.1) ∧ w'.cell? ⟨bd, 4, none⟩ = some (.int .i64 xd.2.2.2.2) ∧ w'.cell? ⟨bf, 0, none⟩ = some (.slice x_fa n_fa c_fa) ∧ w'.cell? ⟨bf, 1, none⟩ = some (.slice x_fb n_fb c_fb) ∧ w'.cell? ⟨bf, 2, none⟩ = some (.slice x_fc n_fc c_fc) ∧ w'.cell? ⟨bf, 3, none⟩ = some (.int .i64 xf.2.2.2.1) ∧ w'.cell? ⟨bf, 4, none⟩ = some (.int .i64 xf.2.2.2.2))) (by kernel_rfl) ?_ (fun hHeld => ?_)
  · exact ⟨kc K0_w.out BB.out, kc K1_w.out BB.out, kc K2_w.out BB.out, kc K3_w.out BB.out, kc K4_w.out BB.out, kc K0_x.out BB.out, kc K1_x.out BB.out, kc K2_x.out BB.out, kc K3_x.out BB.out, kc K4_x.out BB.out, kc K0_y.out BB.out, kc K1_y.out BB.out, kc K2_y.out BB.out, kc K3_y.out BB.out, kc K4_y.out BB.out, kc K0_s.out BB.out, kc K1_s.out BB.out, kc K2_s.out BB.out, kc K3_s.out BB.out, kc K4_s.out BB.out, kc K0_r.out BB.out, kc K1_r.out BB.out, kc K2_r.out BB.out, kc K3_r.out BB.out, kc K4_r.out BB.out, kc K0_a.out BB.out, kc K1_a.out BB.out, kc K2_a.out BB.out, kc K3_a.out BB.out, kc K4_a.out BB.out, kc K0_d.out BB.out, kc K1_d.out BB.out, kc K2_d.out BB.out, kc K3_d.out BB.out, kc K4_d.out BB.out, kc K0_f.out BB.out, kc K1_f.out BB.out, kc K2_f.out BB.out, kc K3_f.out BB.out, kc K4_f.out BB.out⟩
  clear hdr
  generalize w.drew = wd at *
  refine wpAnyH_take (i := 0) (oi := { dst := some 63, op := Op.move (Operand.tmp 4), type := 22, pos := "laws.go:609", after := #[], guard := none }) (v := ?_) rfl (by kernel_rfl) (by kernel_rfl) (by kernel_rfl) (fun _ _ _ h => h) (Or.inl ⟨by rfl, ?_⟩) (by assumption) ?_
  rotate_left
  · intro w' hSw; (try dsimp only at hSw); first | (go_simp; done) | (go_simp; with_reducible rfl)
  (try simp only [Act.put, List.setIfInBounds_toArray, List.set_cons_zero, List.set_cons_succ])
  refine wpAnyH_take (i := 1) (oi := { dst := some 64, op := Op.load 28 (Operand.tmp 3), type := 28, pos := "laws.go:609", after := #[], guard := none }) (v := ?_) rfl (by kernel_rfl) (by kernel_rfl) (by kernel_rfl) (fun _ _ _ h => h) (Or.inl ⟨by rfl, ?_⟩) (by assumption) ?_
  rotate_left
  · intro w' hSw; (try dsimp only at hSw); first | (go_simp; done) | (go_simp; with_reducible rfl)
  (try simp only [Act.put, List.setIfInBounds_toArray, List.set_cons_zero, List.set_cons_succ])
  refine wpAnyH_ready (rs := [2]) (by kernel_rfl) (by simp) ?_
  refine AllReadyH.cons (o := { dst := some 65, op := Op.call { callee := Callee.value (Operand.func 15), args := #[Operand.tmp 64], argTypes := #[28] }, type := 22, pos := "laws.go:609", after := #[{ on := 1, ground := Ground.data }], guard := none }) rfl (fun K hK => ?_) AllReadyH.nil
  go_simp
  refine (specEncodeDataK _ xw _ (H_w.out.on BB.out) (by omega)).mono ?_
  rintro e wn1 ⟨U_p, rfl, ho, hb⟩
  obtain ⟨x_p, n_p, c_p, rfl, ho⟩ := kB_shape ho
  have R_p := Lib.hid ho.at; clear ho
  replace BB := Lib.hid (BB.out.trans (hb.mono BB.out.size))
  clear hb
  (try go_wp2_with fail)
  clear hHeld
  refine hK.out _ _ ?_ (fun hHeld => ?_)
  · (try dsimp only); exact ⟨kc K0_w.out BB.out, kc K1_w.out BB.out, kc K2_w.out BB.out, kc K3_w.out BB.out, kc K4_w.out BB.out, kc K0_x.out BB.out, kc K1_x.out BB.out, kc K2_x.out BB.out, kc K3_x.out BB.out, kc K4_x.out BB.out, kc K0_y.out BB.out, kc K1_y.out BB.out, kc K2_y.out BB.out, kc K3_y.out BB.out, kc K4_y.out BB.out, kc K0_s.out BB.out, kc K1_s.out BB.out, kc K2_s.out BB.out, kc K3_s.out BB.out, kc K4_s.out BB.out, kc K0_r.out BB.out, kc K1_r.out BB.out, kc K2_r.out BB.out, kc K3_r.out BB.out, kc K4_r.out BB.out, kc K0_a.out BB.out, kc K1_a.out BB.out, kc K2_a.out BB.out, kc K3_a.out BB.out, kc K4_a.out BB.out, kc K0_d.out BB.out, kc K1_d.out BB.out, kc K2_d.out BB.out, kc K3_d.out BB.out, kc K4_d.out BB.out, kc K0_f.out BB.out, kc K1_f.out BB.out, kc K2_f.out BB.out, kc K3_f.out BB.out, kc K4_f.out BB.out⟩
  clear hK K
  (try simp only [Act.put, List.setIfInBounds_toArray, List.set_cons_zero, List.set_cons_succ])
  refine wpAnyH_ready (rs := [3]) (by kernel_rfl) (by simp) ?_
  refine AllReadyH.cons (o := { dst := some 66, op := Op.call { callee := Callee.value (Operand.func 14), args := #[Operand.tmp 63, Operand.tmp 65], argTypes := #[22, 22] }, type := 4, pos := "laws.go:609", after := #[{ on := 0, ground := Ground.data }, { on := 2, ground := Ground.data }, { on := 2, ground := Ground.chain }], guard := none }) rfl (fun K hK => ?_) AllReadyH.nil
  go_simp
  refine (sameBV8 HEB.out (H_b.out.on BB.out) R_p.out (by omega)).mono ?_
  rintro e wn2 ⟨rfl, hb⟩
  replace R_p := Lib.hid (R_p.out.on hb)
  replace BB := Lib.hid (BB.out.trans (hb.mono BB.out.size))
  clear hb
  (try go_wp2_with fail)
  clear hHeld
  refine hK.out _ _ ?_ (fun hHeld => ?_)
  · (try dsimp only); exact ⟨kc K0_w.out BB.out, kc K1_w.out BB.out, kc K2_w.out BB.out, kc K3_w.out BB.out, kc K4_w.out BB.out, kc K0_x.out BB.out, kc K1_x.out BB.out, kc K2_x.out BB.out, kc K3_x.out BB.out, kc K4_x.out BB.out, kc K0_y.out BB.out, kc K1_y.out BB.out, kc K2_y.out BB.out, kc K3_y.out BB.out, kc K4_y.out BB.out, kc K0_s.out BB.out, kc K1_s.out BB.out, kc K2_s.out BB.out, kc K3_s.out BB.out, kc K4_s.out BB.out, kc K0_r.out BB.out, kc K1_r.out BB.out, kc K2_r.out BB.out, kc K3_r.out BB.out, kc K4_r.out BB.out, kc K0_a.out BB.out, kc K1_a.out BB.out, kc K2_a.out BB.out, kc K3_a.out BB.out, kc K4_a.out BB.out, kc K0_d.out BB.out, kc K1_d.out BB.out, kc K2_d.out BB.out, kc K3_d.out BB.out, kc K4_d.out BB.out, kc K0_f.out BB.out, kc K1_f.out BB.out, kc K2_f.out BB.out, kc K3_f.out BB.out, kc K4_f.out BB.out⟩
  clear hK K
  (try simp only [Act.put, List.setIfInBounds_toArray, List.set_cons_zero, List.set_cons_succ])
  refine wpAnyH_take (i := 4) (oi := { dst := some 67, op := Op.unOp UnOp.not 4 (Operand.tmp 66), type := 4, pos := "laws.go:609", after := #[{ on := 3, ground := Ground.data }], guard := none }) (v := ?_) rfl (by kernel_rfl) (by kernel_rfl) (by kernel_rfl) (fun _ _ _ h => h) (Or.inl ⟨by rfl, ?_⟩) (by assumption) ?_
  rotate_left
  · intro w' hSw; (try dsimp only at hSw); first | (go_simp; done) | (go_simp; with_reducible rfl)
  (try simp only [Act.put, List.setIfInBounds_toArray, List.set_cons_zero, List.set_cons_succ])
  refine wpAnyH_take (i := 5) (oi := { dst := some 68, op := Op.move (Operand.tmp 67), type := 4, pos := "laws.go:609", after := #[{ on := 4, ground := Ground.data }, { on := 3, ground := Ground.chain }], guard := none }) (v := ?_) rfl (by kernel_rfl) (by kernel_rfl) (by kernel_rfl) (fun _ _ _ h => h) (Or.inl ⟨by rfl, ?_⟩) (by assumption) ?_
  rotate_left
  · intro w' hSw; (try dsimp only at hSw); first | (go_simp; done) | (go_simp; with_reducible rfl)
  (try simp only [Act.put, List.setIfInBounds_toArray, List.set_cons_zero, List.set_cons_succ])
  refine wpAnyH_take (i := 6) (oi := { dst := some 69, op := Op.load 28 (Operand.tmp 6), type := 28, pos := "laws.go:609", after := #[{ on := 5, ground := Ground.guard }], guard := some (5, false) }) (v := ?_) rfl (by kernel_rfl) (by kernel_rfl) (by kernel_rfl) (fun _ _ _ h => h) (Or.inl ⟨by rfl, ?_⟩) (by assumption) ?_
  rotate_left
  · intro w' hSw; (try dsimp only at hSw); first | (go_simp; done) | (go_simp; with_reducible rfl)
  (try simp only [Act.put, List.setIfInBounds_toArray, List.set_cons_zero, List.set_cons_succ])
  refine wpAnyH_take (i := 7) (oi := { dst := some 70, op := Op.load 28 (Operand.tmp 8), type := 28, pos := "laws.go:609", after := #[{ on := 5, ground := Ground.guard }], guard := some (5, false) }) (v := ?_) rfl (by kernel_rfl) (by kernel_rfl) (by kernel_rfl) (fun _ _ _ h => h) (Or.inl ⟨by rfl, ?_⟩) (by assumption) ?_
  rotate_left
  · intro w' hSw; (try dsimp only at hSw); first | (go_simp; done) | (go_simp; with_reducible rfl)
  (try simp only [Act.put, List.setIfInBounds_toArray, List.set_cons_zero, List.set_cons_succ])
  refine wpAnyH_ready (rs := [8]) (by kernel_rfl) (by simp) ?_
  refine AllReadyH.cons (o := { dst := some 71, op := Op.call { callee := Callee.value (Operand.func 16), args := #[Operand.tmp 69, Operand.tmp 70], argTypes := #[28, 28] }, type := 4, pos := "laws.go:609", after := #[{ on := 6, ground := Ground.data }, { on := 7, ground := Ground.data }, { on := 5, ground := Ground.chain }, { on := 5, ground := Ground.guard }], guard := some (5, false) }) rfl (fun K hK => ?_) AllReadyH.nil
  go_simp
  refine (sameDV true (eqD_self xx) (H_x.out.on BB.out) (H_y.out.on BB.out) HYX.out HYX.out (by omega) (by omega)).mono ?_
  rintro e wn3 ⟨rfl, hb⟩
  replace R_p := Lib.hid (R_p.out.on hb)
  replace BB := Lib.hid (BB.out.trans (hb.mono BB.out.size))
  clear hb
  (try go_wp2_with fail)
  clear hHeld
  refine hK.out _ _ ?_ (fun hHeld => ?_)
  · (try dsimp only); exact ⟨kc K0_w.out BB.out, kc K1_w.out BB.out, kc K2_w.out BB.out, kc K3_w.out BB.out, kc K4_w.out BB.out, kc K0_x.out BB.out, kc K1_x.out BB.out, kc K2_x.out BB.out, kc K3_x.out BB.out, kc K4_x.out BB.out, kc K0_y.out BB.out, kc K1_y.out BB.out, kc K2_y.out BB.out, kc K3_y.out BB.out, kc K4_y.out BB.out, kc K0_s.out BB.out, kc K1_s.out BB.out, kc K2_s.out BB.out, kc K3_s.out BB.out, kc K4_s.out BB.out, kc K0_r.out BB.out, kc K1_r.out BB.out, kc K2_r.out BB.out, kc K3_r.out BB.out, kc K4_r.out BB.out, kc K0_a.out BB.out, kc K1_a.out BB.out, kc K2_a.out BB.out, kc K3_a.out BB.out, kc K4_a.out BB.out, kc K0_d.out BB.out, kc K1_d.out BB.out, kc K2_d.out BB.out, kc K3_d.out BB.out, kc K4_d.out BB.out, kc K0_f.out BB.out, kc K1_f.out BB.out, kc K2_f.out BB.out, kc K3_f.out BB.out, kc K4_f.out BB.out⟩
  clear hK K
  (try simp only [Act.put, List.setIfInBounds_toArray, List.set_cons_zero, List.set_cons_succ])
  refine wpAnyH_take (i := 9) (oi := { dst := some 72, op := Op.unOp UnOp.not 4 (Operand.tmp 71), type := 4, pos := "laws.go:609", after := #[{ on := 8, ground := Ground.data }, { on := 5, ground := Ground.guard }], guard := some (5, false) }) (v := ?_) rfl (by kernel_rfl) (by kernel_rfl) (by kernel_rfl) (fun _ _ _ h => h) (Or.inl ⟨by rfl, ?_⟩) (by assumption) ?_
  rotate_left
  · intro w' hSw; (try dsimp only at hSw); first | (go_simp; done) | (go_simp; with_reducible rfl)
  (try simp only [Act.put, List.setIfInBounds_toArray, List.set_cons_zero, List.set_cons_succ])
  refine wpAnyH_take (i := 10) (oi := { dst := some 73, op := Op.pick (Operand.tmp 68) (Operand.const (Value.bool true)) (Operand.tmp 72), type := 4, pos := "laws.go:609", after := #[{ on := 5, ground := Ground.data }, { on := 9, ground := Ground.data }], guard := none }) (v := ?_) rfl (by kernel_rfl) (by kernel_rfl) (by kernel_rfl) (fun _ _ _ h => h) (Or.inl ⟨by rfl, ?_⟩) (by assumption) ?_
  rotate_left
  · intro w' hSw; (try dsimp only at hSw); first | (go_simp; done) | (go_simp; with_reducible rfl)
  (try simp only [Act.put, List.setIfInBounds_toArray, List.set_cons_zero, List.set_cons_succ])
  refine wpAnyH_take (i := 11) (oi := { dst := some 74, op := Op.move (Operand.tmp 73), type := 4, pos := "laws.go:609", after := #[{ on := 10, ground := Ground.data }, { on := 8, ground := Ground.chain }], guard := none }) (v := ?_) rfl (by kernel_rfl) (by kernel_rfl) (by kernel_rfl) (fun _ _ _ h => h) (Or.inl ⟨by rfl, ?_⟩) (by assumption) ?_
  rotate_left
  · intro w' hSw; (try dsimp only at hSw); first | (go_simp; done) | (go_simp; with_reducible rfl)
  (try simp only [Act.put, List.setIfInBounds_toArray, List.set_cons_zero, List.set_cons_succ])
  refine wpAnyH_take (i := 12) (oi := { dst := some 75, op := Op.move (Operand.tmp 7), type := 4, pos := "laws.go:609", after := #[{ on := 11, ground := Ground.guard }], guard := some (11, false) }) (v := ?_) rfl (by kernel_rfl) (by kernel_rfl) (by kernel_rfl) (fun _ _ _ h => h) (Or.inl ⟨by rfl, ?_⟩) (by assumption) ?_
  rotate_left
  · intro w' hSw; (try dsimp only at hSw); first | (go_simp; done) | (go_simp; with_reducible rfl)
  (try simp only [Act.put, List.setIfInBounds_toArray, List.set_cons_zero, List.set_cons_succ])
  refine wpAnyH_take (i := 13) (oi := { dst := some 76, op := Op.move (Operand.tmp 9), type := 4, pos := "laws.go:609", after := #[{ on := 11, ground := Ground.guard }], guard := some (11, false) }) (v := ?_) rfl (by kernel_rfl) (by kernel_rfl) (by kernel_rfl) (fun _ _ _ h => h) (Or.inl ⟨by rfl, ?_⟩) (by assumption) ?_
  rotate_left
  · intro w' hSw; (try dsimp only at hSw); first | (go_simp; done) | (go_simp; with_reducible rfl)
  (try simp only [Act.put, List.setIfInBounds_toArray, List.set_cons_zero, List.set_cons_succ])
  refine wpAnyH_take (i := 14) (oi := { dst := some 77, op := Op.binOp BinOp.neq 4 (Operand.tmp 75) (Operand.tmp 76) 4, type := 4, pos := "laws.go:609", after := #[{ on := 12, ground := Ground.data }, { on := 13, ground := Ground.data }, { on := 11, ground := Ground.guard }], guard := some (11, false) }) (v := ?_) rfl (by kernel_rfl) (by kernel_rfl) (by kernel_rfl) (fun _ _ _ h => h) (Or.inl ⟨by rfl, ?_⟩) (by assumption) ?_
  rotate_left
  · intro w' hSw; (try dsimp only at hSw); first | (go_simp; done) | (go_simp; with_reducible rfl)
  (try simp only [Act.put, List.setIfInBounds_toArray, List.set_cons_zero, List.set_cons_succ])
  refine wpAnyH_take (i := 15) (oi := { dst := some 78, op := Op.pick (Operand.tmp 74) (Operand.const (Value.bool true)) (Operand.tmp 77), type := 4, pos := "laws.go:609", after := #[{ on := 11, ground := Ground.data }, { on := 14, ground := Ground.data }], guard := none }) (v := ?_) rfl (by kernel_rfl) (by kernel_rfl) (by kernel_rfl) (fun _ _ _ h => h) (Or.inl ⟨by rfl, ?_⟩) (by assumption) ?_
  rotate_left
  · intro w' hSw; (try dsimp only at hSw); first | (go_simp; done) | (go_simp; with_reducible rfl)
  (try simp only [Act.put, List.setIfInBounds_toArray, List.set_cons_zero, List.set_cons_succ])
  refine wpAnyH_take (i := 16) (oi := { dst := some 79, op := Op.move (Operand.tmp 78), type := 4, pos := "laws.go:609", after := #[{ on := 15, ground := Ground.data }, { on := 11, ground := Ground.chain }], guard := none }) (v := ?_) rfl (by kernel_rfl) (by kernel_rfl) (by kernel_rfl) (fun _ _ _ h => h) (Or.inl ⟨by rfl, ?_⟩) (by assumption) ?_
  rotate_left
  · intro w' hSw; (try dsimp only at hSw); first | (go_simp; done) | (go_simp; with_reducible rfl)
  (try simp only [Act.put, List.setIfInBounds_toArray, List.set_cons_zero, List.set_cons_succ])
  refine wpAnyH_take (i := 17) (oi := { dst := some 80, op := Op.move (Operand.tmp 10), type := 3, pos := "laws.go:609", after := #[{ on := 16, ground := Ground.guard }], guard := some (16, false) }) (v := ?_) rfl (by kernel_rfl) (by kernel_rfl) (by kernel_rfl) (fun _ _ _ h => h) (Or.inl ⟨by rfl, ?_⟩) (by assumption) ?_
  rotate_left
  · intro w' hSw; (try dsimp only at hSw); first | (go_simp; done) | (go_simp; with_reducible rfl)
  (try simp only [Act.put, List.setIfInBounds_toArray, List.set_cons_zero, List.set_cons_succ])
  refine wpAnyH_take (i := 18) (oi := { dst := some 81, op := Op.load 28 (Operand.tmp 11), type := 28, pos := "laws.go:609", after := #[{ on := 16, ground := Ground.guard }], guard := some (16, false) }) (v := ?_) rfl (by kernel_rfl) (by kernel_rfl) (by kernel_rfl) (fun _ _ _ h => h) (Or.inl ⟨by rfl, ?_⟩) (by assumption) ?_
  rotate_left
  · intro w' hSw; (try dsimp only at hSw); first | (go_simp; done) | (go_simp; with_reducible rfl)
  (try simp only [Act.put, List.setIfInBounds_toArray, List.set_cons_zero, List.set_cons_succ])
  refine wpAnyH_take (i := 20) (oi := { dst := some 83, op := Op.move (Operand.tmp 10), type := 3, pos := "laws.go:609", after := #[{ on := 16, ground := Ground.guard }], guard := some (16, false) }) (v := ?_) rfl (by kernel_rfl) (by kernel_rfl) (by kernel_rfl) (fun _ _ _ h => h) (Or.inl ⟨by rfl, ?_⟩) (by assumption) ?_
  rotate_left
  · intro w' hSw; (try dsimp only at hSw); first | (go_simp; done) | (go_simp; with_reducible rfl)
  (try simp only [Act.put, List.setIfInBounds_toArray, List.set_cons_zero, List.set_cons_succ])
  refine wpAnyH_take (i := 21) (oi := { dst := some 84, op := Op.load 28 (Operand.tmp 11), type := 28, pos := "laws.go:609", after := #[{ on := 16, ground := Ground.guard }], guard := some (16, false) }) (v := ?_) rfl (by kernel_rfl) (by kernel_rfl) (by kernel_rfl) (fun _ _ _ h => h) (Or.inl ⟨by rfl, ?_⟩) (by assumption) ?_
  rotate_left
  · intro w' hSw; (try dsimp only at hSw); first | (go_simp; done) | (go_simp; with_reducible rfl)
  (try simp only [Act.put, List.setIfInBounds_toArray, List.set_cons_zero, List.set_cons_succ])
  refine wpAnyH_ready (rs := [19]) (by kernel_rfl) (by simp) ?_
  refine AllReadyH.cons (o := { dst := some 82, op := Op.call { callee := Callee.value (Operand.func 17), args := #[Operand.tmp 80, Operand.tmp 81], argTypes := #[3, 28] }, type := 28, pos := "laws.go:609", after := #[{ on := 17, ground := Ground.data }, { on := 18, ground := Ground.data }, { on := 16, ground := Ground.chain }, { on := 16, ground := Ground.guard }], guard := some (16, false) }) rfl (fun K hK => ?_) AllReadyH.nil
  go_simp
  refine (implSignDataK _ tk xs _ (H_s.out.on BB.out) HWs.out (by omega)).mono ?_
  rintro e wn4 ⟨U_i, rfl, ho, hb⟩
  obtain ⟨x_ia, n_ia, c_ia, x_ib, n_ib, c_ib, x_ic, n_ic, c_ic, rfl, ho⟩ := kD_shape ho
  have R_i := Lib.hid ho.at; clear ho
  replace R_p := Lib.hid (R_p.out.on hb)
  replace BB := Lib.hid (BB.out.trans (hb.mono BB.out.size))
  clear hb
  (try go_wp2_with fail)
  clear hHeld
  refine hK.out _ _ ?_ (fun hHeld => ?_)
  · (try dsimp only); exact ⟨kc K0_w.out BB.out, kc K1_w.out BB.out, kc K2_w.out BB.out, kc K3_w.out BB.out, kc K4_w.out BB.out, kc K0_x.out BB.out, kc K1_x.out BB.out, kc K2_x.out BB.out, kc K3_x.out BB.out, kc K4_x.out BB.out, kc K0_y.out BB.out, kc K1_y.out BB.out, kc K2_y.out BB.out, kc K3_y.out BB.out, kc K4_y.out BB.out, kc K0_s.out BB.out, kc K1_s.out BB.out, kc K2_s.out BB.out, kc K3_s.out BB.out, kc K4_s.out BB.out, kc K0_r.out BB.out, kc K1_r.out BB.out, kc K2_r.out BB.out, kc K3_r.out BB.out, kc K4_r.out BB.out, kc K0_a.out BB.out, kc K1_a.out BB.out, kc K2_a.out BB.out, kc K3_a.out BB.out, kc K4_a.out BB.out, kc K0_d.out BB.out, kc K1_d.out BB.out, kc K2_d.out BB.out, kc K3_d.out BB.out, kc K4_d.out BB.out, kc K0_f.out BB.out, kc K1_f.out BB.out, kc K2_f.out BB.out, kc K3_f.out BB.out, kc K4_f.out BB.out⟩
  clear hK K
  (try simp only [Act.put, List.setIfInBounds_toArray, List.set_cons_zero, List.set_cons_succ])
  refine wpAnyH_ready (rs := [22]) (by kernel_rfl) (by simp) ?_
  refine AllReadyH.cons (o := { dst := some 85, op := Op.call { callee := Callee.value (Operand.func 18), args := #[Operand.tmp 83, Operand.tmp 84], argTypes := #[3, 28] }, type := 28, pos := "laws.go:609", after := #[{ on := 20, ground := Ground.data }, { on := 21, ground := Ground.data }, { on := 19, ground := Ground.chain }, { on := 16, ground := Ground.guard }], guard := some (16, false) }) rfl (fun K hK => ?_) AllReadyH.nil
  go_simp
  refine (specSignDataK _ tk xs _ (H_s.out.on BB.out) HWs.out (by omega)).mono ?_
  rintro e wn5 ⟨U_j, rfl, ho, hb⟩
  obtain ⟨x_ja, n_ja, c_ja, x_jb, n_jb, c_jb, x_jc, n_jc, c_jc, rfl, ho⟩ := kD_shape ho
  have R_j := Lib.hid ho.at; clear ho
  replace R_p := Lib.hid (R_p.out.on hb)
  replace R_i := Lib.hid (R_i.out.on hb)
  replace BB := Lib.hid (BB.out.trans (hb.mono BB.out.size))
  clear hb
  (try go_wp2_with fail)
  clear hHeld
  refine hK.out _ _ ?_ (fun hHeld => ?_)
  · (try dsimp only); exact ⟨kc K0_w.out BB.out, kc K1_w.out BB.out, kc K2_w.out BB.out, kc K3_w.out BB.out, kc K4_w.out BB.out, kc K0_x.out BB.out, kc K1_x.out BB.out, kc K2_x.out BB.out, kc K3_x.out BB.out, kc K4_x.out BB.out, kc K0_y.out BB.out, kc K1_y.out BB.out, kc K2_y.out BB.out, kc K3_y.out BB.out, kc K4_y.out BB.out, kc K0_s.out BB.out, kc K1_s.out BB.out, kc K2_s.out BB.out, kc K3_s.out BB.out, kc K4_s.out BB.out, kc K0_r.out BB.out, kc K1_r.out BB.out, kc K2_r.out BB.out, kc K3_r.out BB.out, kc K4_r.out BB.out, kc K0_a.out BB.out, kc K1_a.out BB.out, kc K2_a.out BB.out, kc K3_a.out BB.out, kc K4_a.out BB.out, kc K0_d.out BB.out, kc K1_d.out BB.out, kc K2_d.out BB.out, kc K3_d.out BB.out, kc K4_d.out BB.out, kc K0_f.out BB.out, kc K1_f.out BB.out, kc K2_f.out BB.out, kc K3_f.out BB.out, kc K4_f.out BB.out⟩
  clear hK K
  (try simp only [Act.put, List.setIfInBounds_toArray, List.set_cons_zero, List.set_cons_succ])
  refine wpAnyH_ready (rs := [23]) (by kernel_rfl) (by simp) ?_
  refine AllReadyH.cons (o := { dst := some 86, op := Op.call { callee := Callee.value (Operand.func 16), args := #[Operand.tmp 82, Operand.tmp 85], argTypes := #[28, 28] }, type := 4, pos := "laws.go:609", after := #[{ on := 19, ground := Ground.data }, { on := 22, ground := Ground.data }, { on := 22, ground := Ground.chain }, { on := 16, ground := Ground.guard }], guard := some (16, false) }) rfl (fun K hK => ?_) AllReadyH.nil
  go_simp
  refine (sameDV true (eqD_self (sgD tk xs)) R_i.out R_j.out HWs.out.byt HWs.out.byt (show bulkD (sgD tk xs) ≤ 9000000 from Nat.le_trans h3 (by decide)) (show bulkD (sgD tk xs) ≤ 9000000 from Nat.le_trans h3 (by decide))).mono ?_
  rintro e wn6 ⟨rfl, hb⟩
  replace R_p := Lib.hid (R_p.out.on hb)
  replace R_i := Lib.hid (R_i.out.on hb)
  replace R_j := Lib.hid (R_j.out.on hb)
  replace BB := Lib.hid (BB.out.trans (hb.mono BB.out.size))
  clear hb
  (try go_wp2_with fail)
  clear hHeld
  refine hK.out _ _ ?_ (fun hHeld => ?_)
  · (try dsimp only); exact ⟨kc K0_w.out BB.out, kc K1_w.out BB.out, kc K2_w.out BB.out, kc K3_w.out BB.out, kc K4_w.out BB.out, kc K0_x.out BB.out, kc K1_x.out BB.out, kc K2_x.out BB.out, kc K3_x.out BB.out, kc K4_x.out BB.out, kc K0_y.out BB.out, kc K1_y.out BB.out, kc K2_y.out BB.out, kc K3_y.out BB.out, kc K4_y.out BB.out, kc K0_s.out BB.out, kc K1_s.out BB.out, kc K2_s.out BB.out, kc K3_s.out BB.out, kc K4_s.out BB.out, kc K0_r.out BB.out, kc K1_r.out BB.out, kc K2_r.out BB.out, kc K3_r.out BB.out, kc K4_r.out BB.out, kc K0_a.out BB.out, kc K1_a.out BB.out, kc K2_a.out BB.out, kc K3_a.out BB.out, kc K4_a.out BB.out, kc K0_d.out BB.out, kc K1_d.out BB.out, kc K2_d.out BB.out, kc K3_d.out BB.out, kc K4_d.out BB.out, kc K0_f.out BB.out, kc K1_f.out BB.out, kc K2_f.out BB.out, kc K3_f.out BB.out, kc K4_f.out BB.out⟩
  clear hK K
  (try simp only [Act.put, List.setIfInBounds_toArray, List.set_cons_zero, List.set_cons_succ])
  refine wpAnyH_take (i := 24) (oi := { dst := some 87, op := Op.unOp UnOp.not 4 (Operand.tmp 86), type := 4, pos := "laws.go:609", after := #[{ on := 23, ground := Ground.data }, { on := 16, ground := Ground.guard }], guard := some (16, false) }) (v := ?_) rfl (by kernel_rfl) (by kernel_rfl) (by kernel_rfl) (fun _ _ _ h => h) (Or.inl ⟨by rfl, ?_⟩) (by assumption) ?_
  rotate_left
  · intro w' hSw; (try dsimp only at hSw); first | (go_simp; done) | (go_simp; with_reducible rfl)
  (try simp only [Act.put, List.setIfInBounds_toArray, List.set_cons_zero, List.set_cons_succ])
  refine wpAnyH_take (i := 25) (oi := { dst := some 88, op := Op.pick (Operand.tmp 79) (Operand.const (Value.bool true)) (Operand.tmp 87), type := 4, pos := "laws.go:609", after := #[{ on := 16, ground := Ground.data }, { on := 24, ground := Ground.data }], guard := none }) (v := ?_) rfl (by kernel_rfl) (by kernel_rfl) (by kernel_rfl) (fun _ _ _ h => h) (Or.inl ⟨by rfl, ?_⟩) (by assumption) ?_
  rotate_left
  · intro w' hSw; (try dsimp only at hSw); first | (go_simp; done) | (go_simp; with_reducible rfl)
  (try simp only [Act.put, List.setIfInBounds_toArray, List.set_cons_zero, List.set_cons_succ])
  refine wpAnyH_take (i := 26) (oi := { dst := some 89, op := Op.move (Operand.tmp 88), type := 4, pos := "laws.go:609", after := #[{ on := 25, ground := Ground.data }, { on := 23, ground := Ground.chain }], guard := none }) (v := ?_) rfl (by kernel_rfl) (by kernel_rfl) (by kernel_rfl) (fun _ _ _ h => h) (Or.inl ⟨by rfl, ?_⟩) (by assumption) ?_
  rotate_left
  · intro w' hSw; (try dsimp only at hSw); first | (go_simp; done) | (go_simp; with_reducible rfl)
  (try simp only [Act.put, List.setIfInBounds_toArray, List.set_cons_zero, List.set_cons_succ])
  refine wpAnyH_take (i := 27) (oi := { dst := some 90, op := Op.move (Operand.tmp 12), type := 3, pos := "laws.go:609", after := #[{ on := 26, ground := Ground.guard }], guard := some (26, false) }) (v := ?_) rfl (by kernel_rfl) (by kernel_rfl) (by kernel_rfl) (fun _ _ _ h => h) (Or.inl ⟨by rfl, ?_⟩) (by assumption) ?_
  rotate_left
  · intro w' hSw; (try dsimp only at hSw); first | (go_simp; done) | (go_simp; with_reducible rfl)
  (try simp only [Act.put, List.setIfInBounds_toArray, List.set_cons_zero, List.set_cons_succ])
  refine wpAnyH_take (i := 28) (oi := { dst := some 91, op := Op.load 28 (Operand.tmp 13), type := 28, pos := "laws.go:609", after := #[{ on := 26, ground := Ground.guard }], guard := some (26, false) }) (v := ?_) rfl (by kernel_rfl) (by kernel_rfl) (by kernel_rfl) (fun _ _ _ h => h) (Or.inl ⟨by rfl, ?_⟩) (by assumption) ?_
  rotate_left
  · intro w' hSw; (try dsimp only at hSw); first | (go_simp; done) | (go_simp; with_reducible rfl)
  (try simp only [Act.put, List.setIfInBounds_toArray, List.set_cons_zero, List.set_cons_succ])
  refine wpAnyH_take (i := 30) (oi := { dst := some 93, op := Op.move (Operand.tmp 12), type := 3, pos := "laws.go:609", after := #[{ on := 26, ground := Ground.guard }], guard := some (26, false) }) (v := ?_) rfl (by kernel_rfl) (by kernel_rfl) (by kernel_rfl) (fun _ _ _ h => h) (Or.inl ⟨by rfl, ?_⟩) (by assumption) ?_
  rotate_left
  · intro w' hSw; (try dsimp only at hSw); first | (go_simp; done) | (go_simp; with_reducible rfl)
  (try simp only [Act.put, List.setIfInBounds_toArray, List.set_cons_zero, List.set_cons_succ])
  refine wpAnyH_take (i := 31) (oi := { dst := some 94, op := Op.load 28 (Operand.tmp 13), type := 28, pos := "laws.go:609", after := #[{ on := 26, ground := Ground.guard }], guard := some (26, false) }) (v := ?_) rfl (by kernel_rfl) (by kernel_rfl) (by kernel_rfl) (fun _ _ _ h => h) (Or.inl ⟨by rfl, ?_⟩) (by assumption) ?_
  rotate_left
  · intro w' hSw; (try dsimp only at hSw); first | (go_simp; done) | (go_simp; with_reducible rfl)
  (try simp only [Act.put, List.setIfInBounds_toArray, List.set_cons_zero, List.set_cons_succ])
  refine wpAnyH_ready (rs := [29]) (by kernel_rfl) (by simp) ?_
  refine AllReadyH.cons (o := { dst := some 92, op := Op.call { callee := Callee.value (Operand.func 19), args := #[Operand.tmp 90, Operand.tmp 91], argTypes := #[3, 28] }, type := 4, pos := "laws.go:609", after := #[{ on := 27, ground := Ground.data }, { on := 28, ground := Ground.data }, { on := 26, ground := Ground.chain }, { on := 26, ground := Ground.guard }], guard := some (26, false) }) rfl (fun K hK => ?_) AllReadyH.nil
  go_simp
  refine (iVerV q1 HQ1.out (H_r.out.on BB.out) HWr.out.byt (by omega)).mono ?_
  rintro e wn7 ⟨rfl, hb⟩
  replace R_p := Lib.hid (R_p.out.on hb)
  replace R_i := Lib.hid (R_i.out.on hb)
  replace R_j := Lib.hid (R_j.out.on hb)
  replace BB := Lib.hid (BB.out.trans (hb.mono BB.out.size))
  clear hb
  (try go_wp2_with fail)
  clear hHeld
  refine hK.out _ _ ?_ (fun hHeld => ?_)
  · (try dsimp only); exact ⟨kc K0_w.out BB.out, kc K1_w.out BB.out, kc K2_w.out BB.out, kc K3_w.out BB.out, kc K4_w.out BB.out, kc K0_x.out BB.out, kc K1_x.out BB.out, kc K2_x.out BB.out, kc K3_x.out BB.out, kc K4_x.out BB.out, kc K0_y.out BB.out, kc K1_y.out BB.out, kc K2_y.out BB.out, kc K3_y.out BB.out, kc K4_y.out BB.out, kc K0_s.out BB.out, kc K1_s.out BB.out, kc K2_s.out BB.out, kc K3_s.out BB.out, kc K4_s.out BB.out, kc K0_r.out BB.out, kc K1_r.out BB.out, kc K2_r.out BB.out, kc K3_r.out BB.out, kc K4_r.out BB.out, kc K0_a.out BB.out, kc K1_a.out BB.out, kc K2_a.out BB.out, kc K3_a.out BB.out, kc K4_a.out BB.out, kc K0_d.out BB.out, kc K1_d.out BB.out, kc K2_d.out BB.out, kc K3_d.out BB.out, kc K4_d.out BB.out, kc K0_f.out BB.out, kc K1_f.out BB.out, kc K2_f.out BB.out, kc K3_f.out BB.out, kc K4_f.out BB.out⟩
  clear hK K
  (try simp only [Act.put, List.setIfInBounds_toArray, List.set_cons_zero, List.set_cons_succ])
  refine wpAnyH_ready (rs := [32]) (by kernel_rfl) (by simp) ?_
  refine AllReadyH.cons (o := { dst := some 95, op := Op.call { callee := Callee.value (Operand.func 20), args := #[Operand.tmp 93, Operand.tmp 94], argTypes := #[3, 28] }, type := 4, pos := "laws.go:609", after := #[{ on := 30, ground := Ground.data }, { on := 31, ground := Ground.data }, { on := 29, ground := Ground.chain }, { on := 26, ground := Ground.guard }], guard := some (26, false) }) rfl (fun K hK => ?_) AllReadyH.nil
  go_simp
  refine (sVerV q1 HQ1.out (H_r.out.on BB.out) HWr.out.byt (by omega)).mono ?_
  rintro e wn8 ⟨rfl, hb⟩
  replace R_p := Lib.hid (R_p.out.on hb)
  replace R_i := Lib.hid (R_i.out.on hb)
  replace R_j := Lib.hid (R_j.out.on hb)
  replace BB := Lib.hid (BB.out.trans (hb.mono BB.out.size))
  clear hb
  (try go_wp2_with fail)
  clear hHeld
  refine hK.out _ _ ?_ (fun hHeld => ?_)
  · (try dsimp only); exact ⟨kc K0_w.out BB.out, kc K1_w.out BB.out, kc K2_w.out BB.out, kc K3_w.out BB.out, kc K4_w.out BB.out, kc K0_x.out BB.out, kc K1_x.out BB.out, kc K2_x.out BB.out, kc K3_x.out BB.out, kc K4_x.out BB.out, kc K0_y.out BB.out, kc K1_y.out BB.out, kc K2_y.out BB.out, kc K3_y.out BB.out, kc K4_y.out BB.out, kc K0_s.out BB.out, kc K1_s.out BB.out, kc K2_s.out BB.out, kc K3_s.out BB.out, kc K4_s.out BB.out, kc K0_r.out BB.out, kc K1_r.out BB.out, kc K2_r.out BB.out, kc K3_r.out BB.out, kc K4_r.out BB.out, kc K0_a.out BB.out, kc K1_a.out BB.out, kc K2_a.out BB.out, kc K3_a.out BB.out, kc K4_a.out BB.out, kc K0_d.out BB.out, kc K1_d.out BB.out, kc K2_d.out BB.out, kc K3_d.out BB.out, kc K4_d.out BB.out, kc K0_f.out BB.out, kc K1_f.out BB.out, kc K2_f.out BB.out, kc K3_f.out BB.out, kc K4_f.out BB.out⟩
  clear hK K
  (try simp only [Act.put, List.setIfInBounds_toArray, List.set_cons_zero, List.set_cons_succ])
  refine wpAnyH_take (i := 33) (oi := { dst := some 96, op := Op.binOp BinOp.neq 4 (Operand.tmp 92) (Operand.tmp 95) 4, type := 4, pos := "laws.go:609", after := #[{ on := 29, ground := Ground.data }, { on := 32, ground := Ground.data }, { on := 26, ground := Ground.guard }], guard := some (26, false) }) (v := ?_) rfl (by kernel_rfl) (by kernel_rfl) (by kernel_rfl) (fun _ _ _ h => h) (Or.inl ⟨by rfl, ?_⟩) (by assumption) ?_
  rotate_left
  · intro w' hSw; (try dsimp only at hSw); first | (go_simp; done) | (go_simp; with_reducible rfl)
  (try simp only [Act.put, List.setIfInBounds_toArray, List.set_cons_zero, List.set_cons_succ])
  refine wpAnyH_take (i := 34) (oi := { dst := some 97, op := Op.pick (Operand.tmp 89) (Operand.const (Value.bool true)) (Operand.tmp 96), type := 4, pos := "laws.go:609", after := #[{ on := 26, ground := Ground.data }, { on := 33, ground := Ground.data }], guard := none }) (v := ?_) rfl (by kernel_rfl) (by kernel_rfl) (by kernel_rfl) (fun _ _ _ h => h) (Or.inl ⟨by rfl, ?_⟩) (by assumption) ?_
  rotate_left
  · intro w' hSw; (try dsimp only at hSw); first | (go_simp; done) | (go_simp; with_reducible rfl)
  (try simp only [Act.put, List.setIfInBounds_toArray, List.set_cons_zero, List.set_cons_succ])
  refine wpAnyH_take (i := 35) (oi := { dst := some 98, op := Op.move (Operand.tmp 97), type := 4, pos := "laws.go:609", after := #[{ on := 34, ground := Ground.data }, { on := 32, ground := Ground.chain }], guard := none }) (v := ?_) rfl (by kernel_rfl) (by kernel_rfl) (by kernel_rfl) (fun _ _ _ h => h) (Or.inl ⟨by rfl, ?_⟩) (by assumption) ?_
  rotate_left
  · intro w' hSw; (try dsimp only at hSw); first | (go_simp; done) | (go_simp; with_reducible rfl)
  (try simp only [Act.put, List.setIfInBounds_toArray, List.set_cons_zero, List.set_cons_succ])
  refine wpAnyH_take (i := 36) (oi := { dst := some 99, op := Op.load 28 (Operand.tmp 14), type := 28, pos := "laws.go:609", after := #[{ on := 35, ground := Ground.guard }], guard := some (35, false) }) (v := ?_) rfl (by kernel_rfl) (by kernel_rfl) (by kernel_rfl) (fun _ _ _ h => h) (Or.inl ⟨by rfl, ?_⟩) (by assumption) ?_
  rotate_left
  · intro w' hSw; (try dsimp only at hSw); first | (go_simp; done) | (go_simp; with_reducible rfl)
  (try simp only [Act.put, List.setIfInBounds_toArray, List.set_cons_zero, List.set_cons_succ])
  refine wpAnyH_take (i := 37) (oi := { dst := some 100, op := Op.load 28 (Operand.tmp 15), type := 28, pos := "laws.go:609", after := #[{ on := 35, ground := Ground.guard }], guard := some (35, false) }) (v := ?_) rfl (by kernel_rfl) (by kernel_rfl) (by kernel_rfl) (fun _ _ _ h => h) (Or.inl ⟨by rfl, ?_⟩) (by assumption) ?_
  rotate_left
  · intro w' hSw; (try dsimp only at hSw); first | (go_simp; done) | (go_simp; with_reducible rfl)
  (try simp only [Act.put, List.setIfInBounds_toArray, List.set_cons_zero, List.set_cons_succ])
  refine wpAnyH_take (i := 39) (oi := { dst := some 102, op := Op.load 28 (Operand.tmp 14), type := 28, pos := "laws.go:609", after := #[{ on := 35, ground := Ground.guard }], guard := some (35, false) }) (v := ?_) rfl (by kernel_rfl) (by kernel_rfl) (by kernel_rfl) (fun _ _ _ h => h) (Or.inl ⟨by rfl, ?_⟩) (by assumption) ?_
  rotate_left
  · intro w' hSw; (try dsimp only at hSw); first | (go_simp; done) | (go_simp; with_reducible rfl)
  (try simp only [Act.put, List.setIfInBounds_toArray, List.set_cons_zero, List.set_cons_succ])
  refine wpAnyH_take (i := 40) (oi := { dst := some 103, op := Op.load 28 (Operand.tmp 15), type := 28, pos := "laws.go:609", after := #[{ on := 35, ground := Ground.guard }], guard := some (35, false) }) (v := ?_) rfl (by kernel_rfl) (by kernel_rfl) (by kernel_rfl) (fun _ _ _ h => h) (Or.inl ⟨by rfl, ?_⟩) (by assumption) ?_
  rotate_left
  · intro w' hSw; (try dsimp only at hSw); first | (go_simp; done) | (go_simp; with_reducible rfl)
  (try simp only [Act.put, List.setIfInBounds_toArray, List.set_cons_zero, List.set_cons_succ])
  refine wpAnyH_ready (rs := [38]) (by kernel_rfl) (by simp) ?_
  refine AllReadyH.cons (o := { dst := some 101, op := Op.call { callee := Callee.value (Operand.func 21), args := #[Operand.tmp 99, Operand.tmp 100], argTypes := #[28, 28] }, type := 4, pos := "laws.go:609", after := #[{ on := 36, ground := Ground.data }, { on := 37, ground := Ground.data }, { on := 35, ground := Ground.chain }, { on := 35, ground := Ground.guard }], guard := some (35, false) }) rfl (fun K hK => ?_) AllReadyH.nil
  go_simp
  refine (eqDV q2 HQ2.out (H_a.out.on BB.out) (H_d.out.on BB.out) HWa.out HWd.out (by omega) (by omega)).mono ?_
  rintro e wn9 ⟨rfl, hb⟩
  replace R_p := Lib.hid (R_p.out.on hb)
  replace R_i := Lib.hid (R_i.out.on hb)
  replace R_j := Lib.hid (R_j.out.on hb)
  replace BB := Lib.hid (BB.out.trans (hb.mono BB.out.size))
  clear hb
  (try go_wp2_with fail)
  clear hHeld
  refine hK.out _ _ ?_ (fun hHeld => ?_)
  · (try dsimp only); exact ⟨kc K0_w.out BB.out, kc K1_w.out BB.out, kc K2_w.out BB.out, kc K3_w.out BB.out, kc K4_w.out BB.out, kc K0_x.out BB.out, kc K1_x.out BB.out, kc K2_x.out BB.out, kc K3_x.out BB.out, kc K4_x.out BB.out, kc K0_y.out BB.out, kc K1_y.out BB.out, kc K2_y.out BB.out, kc K3_y.out BB.out, kc K4_y.out BB.out, kc K0_s.out BB.out, kc K1_s.out BB.out, kc K2_s.out BB.out, kc K3_s.out BB.out, kc K4_s.out BB.out, kc K0_r.out BB.out, kc K1_r.out BB.out, kc K2_r.out BB.out, kc K3_r.out BB.out, kc K4_r.out BB.out, kc K0_a.out BB.out, kc K1_a.out BB.out, kc K2_a.out BB.out, kc K3_a.out BB.out, kc K4_a.out BB.out, kc K0_d.out BB.out, kc K1_d.out BB.out, kc K2_d.out BB.out, kc K3_d.out BB.out, kc K4_d.out BB.out, kc K0_f.out BB.out, kc K1_f.out BB.out, kc K2_f.out BB.out, kc K3_f.out BB.out, kc K4_f.out BB.out⟩
  clear hK K
  (try simp only [Act.put, List.setIfInBounds_toArray, List.set_cons_zero, List.set_cons_succ])
  refine wpAnyH_ready (rs := [41]) (by kernel_rfl) (by simp) ?_
  refine AllReadyH.cons (o := { dst := some 104, op := Op.call { callee := Callee.value (Operand.func 16), args := #[Operand.tmp 102, Operand.tmp 103], argTypes := #[28, 28] }, type := 4, pos := "laws.go:609", after := #[{ on := 39, ground := Ground.data }, { on := 40, ground := Ground.data }, { on := 38, ground := Ground.chain }, { on := 35, ground := Ground.guard }], guard := some (35, false) }) rfl (fun K hK => ?_) AllReadyH.nil
  go_simp
  refine (sameDV q2 HQ2.out (H_a.out.on BB.out) (H_d.out.on BB.out) HWa.out.byt HWd.out.byt (by omega) (by omega)).mono ?_
  rintro e wn10 ⟨rfl, hb⟩
  replace R_p := Lib.hid (R_p.out.on hb)
  replace R_i := Lib.hid (R_i.out.on hb)
  replace R_j := Lib.hid (R_j.out.on hb)
  replace BB := Lib.hid (BB.out.trans (hb.mono BB.out.size))
  clear hb
  (try go_wp2_with fail)
  clear hHeld
  refine hK.out _ _ ?_ (fun hHeld => ?_)
  · (try dsimp only); exact ⟨kc K0_w.out BB.out, kc K1_w.out BB.out, kc K2_w.out BB.out, kc K3_w.out BB.out, kc K4_w.out BB.out, kc K0_x.out BB.out, kc K1_x.out BB.out, kc K2_x.out BB.out, kc K3_x.out BB.out, kc K4_x.out BB.out, kc K0_y.out BB.out, kc K1_y.out BB.out, kc K2_y.out BB.out, kc K3_y.out BB.out, kc K4_y.out BB.out, kc K0_s.out BB.out, kc K1_s.out BB.out, kc K2_s.out BB.out, kc K3_s.out BB.out, kc K4_s.out BB.out, kc K0_r.out BB.out, kc K1_r.out BB.out, kc K2_r.out BB.out, kc K3_r.out BB.out, kc K4_r.out BB.out, kc K0_a.out BB.out, kc K1_a.out BB.out, kc K2_a.out BB.out, kc K3_a.out BB.out, kc K4_a.out BB.out, kc K0_d.out BB.out, kc K1_d.out BB.out, kc K2_d.out BB.out, kc K3_d.out BB.out, kc K4_d.out BB.out, kc K0_f.out BB.out, kc K1_f.out BB.out, kc K2_f.out BB.out, kc K3_f.out BB.out, kc K4_f.out BB.out⟩
  clear hK K
  (try simp only [Act.put, List.setIfInBounds_toArray, List.set_cons_zero, List.set_cons_succ])
  refine wpAnyH_take (i := 42) (oi := { dst := some 105, op := Op.binOp BinOp.neq 4 (Operand.tmp 101) (Operand.tmp 104) 4, type := 4, pos := "laws.go:609", after := #[{ on := 38, ground := Ground.data }, { on := 41, ground := Ground.data }, { on := 35, ground := Ground.guard }], guard := some (35, false) }) (v := ?_) rfl (by kernel_rfl) (by kernel_rfl) (by kernel_rfl) (fun _ _ _ h => h) (Or.inl ⟨by rfl, ?_⟩) (by assumption) ?_
  rotate_left
  · intro w' hSw; (try dsimp only at hSw); first | (go_simp; done) | (go_simp; with_reducible rfl)
  (try simp only [Act.put, List.setIfInBounds_toArray, List.set_cons_zero, List.set_cons_succ])
  refine wpAnyH_take (i := 43) (oi := { dst := some 106, op := Op.pick (Operand.tmp 98) (Operand.const (Value.bool true)) (Operand.tmp 105), type := 4, pos := "laws.go:609", after := #[{ on := 35, ground := Ground.data }, { on := 42, ground := Ground.data }], guard := none }) (v := ?_) rfl (by kernel_rfl) (by kernel_rfl) (by kernel_rfl) (fun _ _ _ h => h) (Or.inl ⟨by rfl, ?_⟩) (by assumption) ?_
  rotate_left
  · intro w' hSw; (try dsimp only at hSw); first | (go_simp; done) | (go_simp; with_reducible rfl)
  (try simp only [Act.put, List.setIfInBounds_toArray, List.set_cons_zero, List.set_cons_succ])
  refine wpAnyH_take (i := 44) (oi := { dst := some 107, op := Op.move (Operand.tmp 106), type := 4, pos := "laws.go:609", after := #[{ on := 43, ground := Ground.data }, { on := 41, ground := Ground.chain }], guard := none }) (v := ?_) rfl (by kernel_rfl) (by kernel_rfl) (by kernel_rfl) (fun _ _ _ h => h) (Or.inl ⟨by rfl, ?_⟩) (by assumption) ?_
  rotate_left
  · intro w' hSw; (try dsimp only at hSw); first | (go_simp; done) | (go_simp; with_reducible rfl)
  (try simp only [Act.put, List.setIfInBounds_toArray, List.set_cons_zero, List.set_cons_succ])
  refine wpAnyH_take (i := 45) (oi := { dst := some 108, op := Op.load 28 (Operand.tmp 16), type := 28, pos := "laws.go:609", after := #[{ on := 44, ground := Ground.guard }], guard := some (44, false) }) (v := ?_) rfl (by kernel_rfl) (by kernel_rfl) (by kernel_rfl) (fun _ _ _ h => h) (Or.inl ⟨by rfl, ?_⟩) (by assumption) ?_
  rotate_left
  · intro w' hSw; (try dsimp only at hSw); first | (go_simp; done) | (go_simp; with_reducible rfl)
  (try simp only [Act.put, List.setIfInBounds_toArray, List.set_cons_zero, List.set_cons_succ])
  refine wpAnyH_take (i := 46) (oi := { dst := some 109, op := Op.move (Operand.tmp 17), type := 3, pos := "laws.go:609", after := #[{ on := 44, ground := Ground.guard }], guard := some (44, false) }) (v := ?_) rfl (by kernel_rfl) (by kernel_rfl) (by kernel_rfl) (fun _ _ _ h => h) (Or.inl ⟨by rfl, ?_⟩) (by assumption) ?_
  rotate_left
  · intro w' hSw; (try dsimp only at hSw); first | (go_simp; done) | (go_simp; with_reducible rfl)
  (try simp only [Act.put, List.setIfInBounds_toArray, List.set_cons_zero, List.set_cons_succ])
  refine wpAnyH_take (i := 48) (oi := { dst := some 111, op := Op.load 28 (Operand.tmp 16), type := 28, pos := "laws.go:609", after := #[{ on := 44, ground := Ground.guard }], guard := some (44, false) }) (v := ?_) rfl (by kernel_rfl) (by kernel_rfl) (by kernel_rfl) (fun _ _ _ h => h) (Or.inl ⟨by rfl, ?_⟩) (by assumption) ?_
  rotate_left
  · intro w' hSw; (try dsimp only at hSw); first | (go_simp; done) | (go_simp; with_reducible rfl)
  (try simp only [Act.put, List.setIfInBounds_toArray, List.set_cons_zero, List.set_cons_succ])
  refine wpAnyH_take (i := 49) (oi := { dst := some 112, op := Op.move (Operand.tmp 17), type := 3, pos := "laws.go:609", after := #[{ on := 44, ground := Ground.guard }], guard := some (44, false) }) (v := ?_) rfl (by kernel_rfl) (by kernel_rfl) (by kernel_rfl) (fun _ _ _ h => h) (Or.inl ⟨by rfl, ?_⟩) (by assumption) ?_
  rotate_left
  · intro w' hSw; (try dsimp only at hSw); first | (go_simp; done) | (go_simp; with_reducible rfl)
  (try simp only [Act.put, List.setIfInBounds_toArray, List.set_cons_zero, List.set_cons_succ])
  refine wpAnyH_ready (rs := [47]) (by kernel_rfl) (by simp) ?_
  refine AllReadyH.cons (o := { dst := some 110, op := Op.call { callee := Callee.value (Operand.func 22), args := #[Operand.tmp 108, Operand.tmp 109], argTypes := #[28, 3] }, type := 4, pos := "laws.go:609", after := #[{ on := 45, ground := Ground.data }, { on := 46, ground := Ground.data }, { on := 44, ground := Ground.chain }, { on := 44, ground := Ground.guard }], guard := some (44, false) }) rfl (fun K hK => ?_) AllReadyH.nil
  go_simp
  refine (iFreV q3 HQ3.out (H_f.out.on BB.out)).mono ?_
  rintro e wn11 ⟨rfl, hb⟩
  replace R_p := Lib.hid (R_p.out.on hb)
  replace R_i := Lib.hid (R_i.out.on hb)
  replace R_j := Lib.hid (R_j.out.on hb)
  replace BB := Lib.hid (BB.out.trans (hb.mono BB.out.size))
  clear hb
  (try go_wp2_with fail)
  clear hHeld
  refine hK.out _ _ ?_ (fun hHeld => ?_)
  · (try dsimp only); exact ⟨kc K0_w.out BB.out, kc K1_w.out BB.out, kc K2_w.out BB.out, kc K3_w.out BB.out, kc K4_w.out BB.out, kc K0_x.out BB.out, kc K1_x.out BB.out, kc K2_x.out BB.out, kc K3_x.out BB.out, kc K4_x.out BB.out, kc K0_y.out BB.out, kc K1_y.out BB.out, kc K2_y.out BB.out, kc K3_y.out BB.out, kc K4_y.out BB.out, kc K0_s.out BB.out, kc K1_s.out BB.out, kc K2_s.out BB.out, kc K3_s.out BB.out, kc K4_s.out BB.out, kc K0_r.out BB.out, kc K1_r.out BB.out, kc K2_r.out BB.out, kc K3_r.out BB.out, kc K4_r.out BB.out, kc K0_a.out BB.out, kc K1_a.out BB.out, kc K2_a.out BB.out, kc K3_a.out BB.out, kc K4_a.out BB.out, kc K0_d.out BB.out, kc K1_d.out BB.out, kc K2_d.out BB.out, kc K3_d.out BB.out, kc K4_d.out BB.out, kc K0_f.out BB.out, kc K1_f.out BB.out, kc K2_f.out BB.out, kc K3_f.out BB.out, kc K4_f.out BB.out⟩
  clear hK K
  (try simp only [Act.put, List.setIfInBounds_toArray, List.set_cons_zero, List.set_cons_succ])
  refine wpAnyH_ready (rs := [50]) (by kernel_rfl) (by simp) ?_
  refine AllReadyH.cons (o := { dst := some 113, op := Op.call { callee := Callee.value (Operand.func 23), args := #[Operand.tmp 111, Operand.tmp 112], argTypes := #[28, 3] }, type := 4, pos := "laws.go:609", after := #[{ on := 48, ground := Ground.data }, { on := 49, ground := Ground.data }, { on := 47, ground := Ground.chain }, { on := 44, ground := Ground.guard }], guard := some (44, false) }) rfl (fun K hK => ?_) AllReadyH.nil
  go_simp
  refine (sFreV q3 HQ3.out (H_f.out.on BB.out)).mono ?_
  rintro e wn12 ⟨rfl, hb⟩
  replace R_p := Lib.hid (R_p.out.on hb)
  replace R_i := Lib.hid (R_i.out.on hb)
  replace R_j := Lib.hid (R_j.out.on hb)
  replace BB := Lib.hid (BB.out.trans (hb.mono BB.out.size))
  clear hb
  (try go_wp2_with fail)
  clear hHeld
  refine hK.out _ _ ?_ (fun hHeld => ?_)
  · (try dsimp only); exact ⟨kc K0_w.out BB.out, kc K1_w.out BB.out, kc K2_w.out BB.out, kc K3_w.out BB.out, kc K4_w.out BB.out, kc K0_x.out BB.out, kc K1_x.out BB.out, kc K2_x.out BB.out, kc K3_x.out BB.out, kc K4_x.out BB.out, kc K0_y.out BB.out, kc K1_y.out BB.out, kc K2_y.out BB.out, kc K3_y.out BB.out, kc K4_y.out BB.out, kc K0_s.out BB.out, kc K1_s.out BB.out, kc K2_s.out BB.out, kc K3_s.out BB.out, kc K4_s.out BB.out, kc K0_r.out BB.out, kc K1_r.out BB.out, kc K2_r.out BB.out, kc K3_r.out BB.out, kc K4_r.out BB.out, kc K0_a.out BB.out, kc K1_a.out BB.out, kc K2_a.out BB.out, kc K3_a.out BB.out, kc K4_a.out BB.out, kc K0_d.out BB.out, kc K1_d.out BB.out, kc K2_d.out BB.out, kc K3_d.out BB.out, kc K4_d.out BB.out, kc K0_f.out BB.out, kc K1_f.out BB.out, kc K2_f.out BB.out, kc K3_f.out BB.out, kc K4_f.out BB.out⟩
  clear hK K
  (try simp only [Act.put, List.setIfInBounds_toArray, List.set_cons_zero, List.set_cons_succ])
  refine wpAnyH_take (i := 51) (oi := { dst := some 114, op := Op.binOp BinOp.neq 4 (Operand.tmp 110) (Operand.tmp 113) 4, type := 4, pos := "laws.go:609", after := #[{ on := 47, ground := Ground.data }, { on := 50, ground := Ground.data }, { on := 44, ground := Ground.guard }], guard := some (44, false) }) (v := ?_) rfl (by kernel_rfl) (by kernel_rfl) (by kernel_rfl) (fun _ _ _ h => h) (Or.inl ⟨by rfl, ?_⟩) (by assumption) ?_
  rotate_left
  · intro w' hSw; (try dsimp only at hSw); first | (go_simp; done) | (go_simp; with_reducible rfl)
  (try simp only [Act.put, List.setIfInBounds_toArray, List.set_cons_zero, List.set_cons_succ])
  refine wpAnyH_take (i := 52) (oi := { dst := some 115, op := Op.pick (Operand.tmp 107) (Operand.const (Value.bool true)) (Operand.tmp 114), type := 4, pos := "laws.go:609", after := #[{ on := 44, ground := Ground.data }, { on := 51, ground := Ground.data }], guard := none }) (v := ?_) rfl (by kernel_rfl) (by kernel_rfl) (by kernel_rfl) (fun _ _ _ h => h) (Or.inl ⟨by rfl, ?_⟩) (by assumption) ?_
  rotate_left
  · intro w' hSw; (try dsimp only at hSw); first | (go_simp; done) | (go_simp; with_reducible rfl)
  (try simp only [Act.put, List.setIfInBounds_toArray, List.set_cons_zero, List.set_cons_succ])
  refine wpAnyH_take (i := 53) (oi := { dst := some 116, op := Op.move (Operand.tmp 115), type := 4, pos := "laws.go:609", after := #[{ on := 52, ground := Ground.data }, { on := 50, ground := Ground.chain }], guard := none }) (v := ?_) rfl (by kernel_rfl) (by kernel_rfl) (by kernel_rfl) (fun _ _ _ h => h) (Or.inl ⟨by rfl, ?_⟩) (by assumption) ?_
  rotate_left
  · intro w' hSw; (try dsimp only at hSw); first | (go_simp; done) | (go_simp; with_reducible rfl)
  (try simp only [Act.put, List.setIfInBounds_toArray, List.set_cons_zero, List.set_cons_succ])
  refine wpAnyH_take (i := 54) (oi := { dst := some 117, op := Op.load 28 (Operand.tmp 3), type := 28, pos := "laws.go:609", after := #[{ on := 53, ground := Ground.guard }], guard := some (53, false) }) (v := ?_) rfl (by kernel_rfl) (by kernel_rfl) (by kernel_rfl) (fun _ _ _ h => h) (Or.inl ⟨by rfl, ?_⟩) (by assumption) ?_
  rotate_left
  · intro w' hSw; (try dsimp only at hSw); first | (go_simp; done) | (go_simp; with_reducible rfl)
  (try simp only [Act.put, List.setIfInBounds_toArray, List.set_cons_zero, List.set_cons_succ])
  refine wpAnyH_take (i := 56) (oi := { dst := some 119, op := Op.load 28 (Operand.tmp 3), type := 28, pos := "laws.go:609", after := #[{ on := 53, ground := Ground.guard }], guard := some (53, false) }) (v := ?_) rfl (by kernel_rfl) (by kernel_rfl) (by kernel_rfl) (fun _ _ _ h => h) (Or.inl ⟨by rfl, ?_⟩) (by assumption) ?_
  rotate_left
  · intro w' hSw; (try dsimp only at hSw); first | (go_simp; done) | (go_simp; with_reducible rfl)
  (try simp only [Act.put, List.setIfInBounds_toArray, List.set_cons_zero, List.set_cons_succ])
  refine wpAnyH_ready (rs := [55]) (by kernel_rfl) (by simp) ?_
  refine AllReadyH.cons (o := { dst := some 118, op := Op.call { callee := Callee.value (Operand.func 24), args := #[Operand.tmp 117], argTypes := #[28] }, type := 4, pos := "laws.go:609", after := #[{ on := 54, ground := Ground.data }, { on := 53, ground := Ground.chain }, { on := 53, ground := Ground.guard }], guard := some (53, false) }) rfl (fun K hK => ?_) AllReadyH.nil
  go_simp
  refine (iValV q4 HQ4.out (H_w.out.on BB.out) (by omega)).mono ?_
  rintro e wn13 ⟨rfl, hb⟩
  replace R_p := Lib.hid (R_p.out.on hb)
  replace R_i := Lib.hid (R_i.out.on hb)
  replace R_j := Lib.hid (R_j.out.on hb)
  replace BB := Lib.hid (BB.out.trans (hb.mono BB.out.size))
  clear hb
  (try go_wp2_with fail)
  clear hHeld
  refine hK.out _ _ ?_ (fun hHeld => ?_)
  · (try dsimp only); exact ⟨kc K0_w.out BB.out, kc K1_w.out BB.out, kc K2_w.out BB.out, kc K3_w.out BB.out, kc K4_w.out BB.out, kc K0_x.out BB.out, kc K1_x.out BB.out, kc K2_x.out BB.out, kc K3_x.out BB.out, kc K4_x.out BB.out, kc K0_y.out BB.out, kc K1_y.out BB.out, kc K2_y.out BB.out, kc K3_y.out BB.out, kc K4_y.out BB.out, kc K0_s.out BB.out, kc K1_s.out BB.out, kc K2_s.out BB.out, kc K3_s.out BB.out, kc K4_s.out BB.out, kc K0_r.out BB.out, kc K1_r.out BB.out, kc K2_r.out BB.out, kc K3_r.out BB.out, kc K4_r.out BB.out, kc K0_a.out BB.out, kc K1_a.out BB.out, kc K2_a.out BB.out, kc K3_a.out BB.out, kc K4_a.out BB.out, kc K0_d.out BB.out, kc K1_d.out BB.out, kc K2_d.out BB.out, kc K3_d.out BB.out, kc K4_d.out BB.out, kc K0_f.out BB.out, kc K1_f.out BB.out, kc K2_f.out BB.out, kc K3_f.out BB.out, kc K4_f.out BB.out⟩
  clear hK K
  (try simp only [Act.put, List.setIfInBounds_toArray, List.set_cons_zero, List.set_cons_succ])
  refine wpAnyH_ready (rs := [57]) (by kernel_rfl) (by simp) ?_
  refine AllReadyH.cons (o := { dst := some 120, op := Op.call { callee := Callee.value (Operand.func 25), args := #[Operand.tmp 119], argTypes := #[28] }, type := 4, pos := "laws.go:609", after := #[{ on := 56, ground := Ground.data }, { on := 55, ground := Ground.chain }, { on := 53, ground := Ground.guard }], guard := some (53, false) }) rfl (fun K hK => ?_) AllReadyH.nil
  go_simp
  refine (sValV q4 HQ4.out (H_w.out.on BB.out) (by omega)).mono ?_
  rintro e wn14 ⟨rfl, hb⟩
  replace R_p := Lib.hid (R_p.out.on hb)
  replace R_i := Lib.hid (R_i.out.on hb)
  replace R_j := Lib.hid (R_j.out.on hb)
  replace BB := Lib.hid (BB.out.trans (hb.mono BB.out.size))
  clear hb
  (try go_wp2_with fail)
  clear hHeld
  refine hK.out _ _ ?_ (fun hHeld => ?_)
  · (try dsimp only); exact ⟨kc K0_w.out BB.out, kc K1_w.out BB.out, kc K2_w.out BB.out, kc K3_w.out BB.out, kc K4_w.out BB.out, kc K0_x.out BB.out, kc K1_x.out BB.out, kc K2_x.out BB.out, kc K3_x.out BB.out, kc K4_x.out BB.out, kc K0_y.out BB.out, kc K1_y.out BB.out, kc K2_y.out BB.out, kc K3_y.out BB.out, kc K4_y.out BB.out, kc K0_s.out BB.out, kc K1_s.out BB.out, kc K2_s.out BB.out, kc K3_s.out BB.out, kc K4_s.out BB.out, kc K0_r.out BB.out, kc K1_r.out BB.out, kc K2_r.out BB.out, kc K3_r.out BB.out, kc K4_r.out BB.out, kc K0_a.out BB.out, kc K1_a.out BB.out, kc K2_a.out BB.out, kc K3_a.out BB.out, kc K4_a.out BB.out, kc K0_d.out BB.out, kc K1_d.out BB.out, kc K2_d.out BB.out, kc K3_d.out BB.out, kc K4_d.out BB.out, kc K0_f.out BB.out, kc K1_f.out BB.out, kc K2_f.out BB.out, kc K3_f.out BB.out, kc K4_f.out BB.out⟩
  clear hK K
  (try simp only [Act.put, List.setIfInBounds_toArray, List.set_cons_zero, List.set_cons_succ])
  refine wpAnyH_take (i := 58) (oi := { dst := some 121, op := Op.binOp BinOp.neq 4 (Operand.tmp 118) (Operand.tmp 120) 4, type := 4, pos := "laws.go:609", after := #[{ on := 55, ground := Ground.data }, { on := 57, ground := Ground.data }, { on := 53, ground := Ground.guard }], guard := some (53, false) }) (v := ?_) rfl (by kernel_rfl) (by kernel_rfl) (by kernel_rfl) (fun _ _ _ h => h) (Or.inl ⟨by rfl, ?_⟩) (by assumption) ?_
  rotate_left
  · intro w' hSw; (try dsimp only at hSw); first | (go_simp; done) | (go_simp; with_reducible rfl)
  (try simp only [Act.put, List.setIfInBounds_toArray, List.set_cons_zero, List.set_cons_succ])
  refine wpAnyH_take (i := 59) (oi := { dst := some 122, op := Op.pick (Operand.tmp 116) (Operand.const (Value.bool true)) (Operand.tmp 121), type := 4, pos := "laws.go:609", after := #[{ on := 53, ground := Ground.data }, { on := 58, ground := Ground.data }], guard := none }) (v := ?_) rfl (by kernel_rfl) (by kernel_rfl) (by kernel_rfl) (fun _ _ _ h => h) (Or.inl ⟨by rfl, ?_⟩) (by assumption) ?_
  rotate_left
  · intro w' hSw; (try dsimp only at hSw); first | (go_simp; done) | (go_simp; with_reducible rfl)
  (try simp only [Act.put, List.setIfInBounds_toArray, List.set_cons_zero, List.set_cons_succ])
  refine wpAnyH_take (i := 60) (oi := { dst := some 123, op := Op.move (Operand.tmp 122), type := 4, pos := "laws.go:609", after := #[{ on := 59, ground := Ground.data }, { on := 57, ground := Ground.chain }], guard := none }) (v := ?_) rfl (by kernel_rfl) (by kernel_rfl) (by kernel_rfl) (fun _ _ _ h => h) (Or.inl ⟨by rfl, ?_⟩) (by assumption) ?_
  rotate_left
  · intro w' hSw; (try dsimp only at hSw); first | (go_simp; done) | (go_simp; with_reducible rfl)
  (try simp only [Act.put, List.setIfInBounds_toArray, List.set_cons_zero, List.set_cons_succ])
  refine wpAnyH_take (i := 61) (oi := { dst := some 124, op := Op.load 28 (Operand.tmp 3), type := 28, pos := "laws.go:609", after := #[{ on := 60, ground := Ground.guard }], guard := some (60, false) }) (v := ?_) rfl (by kernel_rfl) (by kernel_rfl) (by kernel_rfl) (fun _ _ _ h => h) (Or.inl ⟨by rfl, ?_⟩) (by assumption) ?_
  rotate_left
  · intro w' hSw; (try dsimp only at hSw); first | (go_simp; done) | (go_simp; with_reducible rfl)
  (try simp only [Act.put, List.setIfInBounds_toArray, List.set_cons_zero, List.set_cons_succ])
  refine wpAnyH_take (i := 63) (oi := { dst := some 126, op := Op.load 28 (Operand.tmp 3), type := 28, pos := "laws.go:609", after := #[{ on := 60, ground := Ground.guard }], guard := some (60, false) }) (v := ?_) rfl (by kernel_rfl) (by kernel_rfl) (by kernel_rfl) (fun _ _ _ h => h) (Or.inl ⟨by rfl, ?_⟩) (by assumption) ?_
  rotate_left
  · intro w' hSw; (try dsimp only at hSw); first | (go_simp; done) | (go_simp; with_reducible rfl)
  (try simp only [Act.put, List.setIfInBounds_toArray, List.set_cons_zero, List.set_cons_succ])
  refine wpAnyH_ready (rs := [62]) (by kernel_rfl) (by simp) ?_
  refine AllReadyH.cons (o := { dst := some 125, op := Op.call { callee := Callee.value (Operand.func 27), args := #[Operand.tmp 124], argTypes := #[28] }, type := 47, pos := "laws.go:609", after := #[{ on := 61, ground := Ground.data }, { on := 60, ground := Ground.chain }, { on := 60, ground := Ground.guard }], guard := some (60, false) }) rfl (fun K hK => ?_) AllReadyH.nil
  go_simp
  refine (implSignedPortionK _ xw _ (H_w.out.on BB.out) HWw.out (by omega)).mono ?_
  rintro e wn15 ⟨U_k, rfl, ho, hb⟩
  obtain ⟨x_k, n_k, c_k, rfl, ho⟩ := kI_shape ho
  have R_k := Lib.hid ho.at; clear ho
  replace R_p := Lib.hid (R_p.out.on hb)
  replace R_i := Lib.hid (R_i.out.on hb)
  replace R_j := Lib.hid (R_j.out.on hb)
  replace BB := Lib.hid (BB.out.trans (hb.mono BB.out.size))
  clear hb
  (try go_wp2_with fail)
  clear hHeld
  refine hK.out _ _ ?_ (fun hHeld => ?_)
  · (try dsimp only); exact ⟨kc K0_w.out BB.out, kc K1_w.out BB.out, kc K2_w.out BB.out, kc K3_w.out BB.out, kc K4_w.out BB.out, kc K0_x.out BB.out, kc K1_x.out BB.out, kc K2_x.out BB.out, kc K3_x.out BB.out, kc K4_x.out BB.out, kc K0_y.out BB.out, kc K1_y.out BB.out, kc K2_y.out BB.out, kc K3_y.out BB.out, kc K4_y.out BB.out, kc K0_s.out BB.out, kc K1_s.out BB.out, kc K2_s.out BB.out, kc K3_s.out BB.out, kc K4_s.out BB.out, kc K0_r.out BB.out, kc K1_r.out BB.out, kc K2_r.out BB.out, kc K3_r.out BB.out, kc K4_r.out BB.out, kc K0_a.out BB.out, kc K1_a.out BB.out, kc K2_a.out BB.out, kc K3_a.out BB.out, kc K4_a.out BB.out, kc K0_d.out BB.out, kc K1_d.out BB.out, kc K2_d.out BB.out, kc K3_d.out BB.out, kc K4_d.out BB.out, kc K0_f.out BB.out, kc K1_f.out BB.out, kc K2_f.out BB.out, kc K3_f.out BB.out, kc K4_f.out BB.out⟩
  clear hK K
  (try simp only [Act.put, List.setIfInBounds_toArray, List.set_cons_zero, List.set_cons_succ])
  refine wpAnyH_ready (rs := [64]) (by kernel_rfl) (by simp) ?_
  refine AllReadyH.cons (o := { dst := some 127, op := Op.call { callee := Callee.value (Operand.func 28), args := #[Operand.tmp 126], argTypes := #[28] }, type := 47, pos := "laws.go:609", after := #[{ on := 63, ground := Ground.data }, { on := 62, ground := Ground.chain }, { on := 60, ground := Ground.guard }], guard := some (60, false) }) rfl (fun K hK => ?_) AllReadyH.nil
  go_simp
  refine (specSignedPortionK _ xw _ (H_w.out.on BB.out) HWw.out (by omega)).mono ?_
  rintro e wn16 ⟨U_m, rfl, ho, hb⟩
  obtain ⟨x_m, n_m, c_m, rfl, ho⟩ := kI_shape ho
  have R_m := Lib.hid ho.at; clear ho
  replace R_p := Lib.hid (R_p.out.on hb)
  replace R_i := Lib.hid (R_i.out.on hb)
  replace R_j := Lib.hid (R_j.out.on hb)
  replace R_k := Lib.hid (R_k.out.on hb)
  replace BB := Lib.hid (BB.out.trans (hb.mono BB.out.size))
  clear hb
  (try go_wp2_with fail)
  clear hHeld
  refine hK.out _ _ ?_ (fun hHeld => ?_)
  · (try dsimp only); exact ⟨kc K0_w.out BB.out, kc K1_w.out BB.out, kc K2_w.out BB.out, kc K3_w.out BB.out, kc K4_w.out BB.out, kc K0_x.out BB.out, kc K1_x.out BB.out, kc K2_x.out BB.out, kc K3_x.out BB.out, kc K4_x.out BB.out, kc K0_y.out BB.out, kc K1_y.out BB.out, kc K2_y.out BB.out, kc K3_y.out BB.out, kc K4_y.out BB.out, kc K0_s.out BB.out, kc K1_s.out BB.out, kc K2_s.out BB.out, kc K3_s.out BB.out, kc K4_s.out BB.out, kc K0_r.out BB.out, kc K1_r.out BB.out, kc K2_r.out BB.out, kc K3_r.out BB.out, kc K4_r.out BB.out, kc K0_a.out BB.out, kc K1_a.out BB.out, kc K2_a.out BB.out, kc K3_a.out BB.out, kc K4_a.out BB.out, kc K0_d.out BB.out, kc K1_d.out BB.out, kc K2_d.out BB.out, kc K3_d.out BB.out, kc K4_d.out BB.out, kc K0_f.out BB.out, kc K1_f.out BB.out, kc K2_f.out BB.out, kc K3_f.out BB.out, kc K4_f.out BB.out⟩
  clear hK K
  (try simp only [Act.put, List.setIfInBounds_toArray, List.set_cons_zero, List.set_cons_succ])
  refine wpAnyH_ready (rs := [65]) (by kernel_rfl) (by simp) ?_
  refine AllReadyH.cons (o := { dst := some 128, op := Op.call { callee := Callee.value (Operand.func 26), args := #[Operand.tmp 125, Operand.tmp 127], argTypes := #[47, 47] }, type := 4, pos := "laws.go:609", after := #[{ on := 62, ground := Ground.data }, { on := 64, ground := Ground.data }, { on := 64, ground := Ground.chain }, { on := 60, ground := Ground.guard }], guard := some (60, false) }) rfl (fun K hK => ?_) AllReadyH.nil
  go_simp
  refine (sameIV8 R_k.out R_m.out (by have := portD_len xw; omega)).mono ?_
  rintro e wn17 ⟨rfl, hb⟩
  replace R_p := Lib.hid (R_p.out.on hb)
  replace R_i := Lib.hid (R_i.out.on hb)
  replace R_j := Lib.hid (R_j.out.on hb)
  replace R_k := Lib.hid (R_k.out.on hb)
  replace R_m := Lib.hid (R_m.out.on hb)
  replace BB := Lib.hid (BB.out.trans (hb.mono BB.out.size))
  clear hb
  (try go_wp2_with fail)
  clear hHeld
  refine hK.out _ _ ?_ (fun hHeld => ?_)
  · (try dsimp only); exact ⟨kc K0_w.out BB.out, kc K1_w.out BB.out, kc K2_w.out BB.out, kc K3_w.out BB.out, kc K4_w.out BB.out, kc K0_x.out BB.out, kc K1_x.out BB.out, kc K2_x.out BB.out, kc K3_x.out BB.out, kc K4_x.out BB.out, kc K0_y.out BB.out, kc K1_y.out BB.out, kc K2_y.out BB.out, kc K3_y.out BB.out, kc K4_y.out BB.out, kc K0_s.out BB.out, kc K1_s.out BB.out, kc K2_s.out BB.out, kc K3_s.out BB.out, kc K4_s.out BB.out, kc K0_r.out BB.out, kc K1_r.out BB.out, kc K2_r.out BB.out, kc K3_r.out BB.out, kc K4_r.out BB.out, kc K0_a.out BB.out, kc K1_a.out BB.out, kc K2_a.out BB.out, kc K3_a.out BB.out, kc K4_a.out BB.out, kc K0_d.out BB.out, kc K1_d.out BB.out, kc K2_d.out BB.out, kc K3_d.out BB.out, kc K4_d.out BB.out, kc K0_f.out BB.out, kc K1_f.out BB.out, kc K2_f.out BB.out, kc K3_f.out BB.out, kc K4_f.out BB.out⟩
  clear hK K
  (try simp only [Act.put, List.setIfInBounds_toArray, List.set_cons_zero, List.set_cons_succ])
  refine wpAnyH_take (i := 66) (oi := { dst := some 129, op := Op.unOp UnOp.not 4 (Operand.tmp 128), type := 4, pos := "laws.go:609", after := #[{ on := 65, ground := Ground.data }, { on := 60, ground := Ground.guard }], guard := some (60, false) }) (v := ?_) rfl (by kernel_rfl) (by kernel_rfl) (by kernel_rfl) (fun _ _ _ h => h) (Or.inl ⟨by rfl, ?_⟩) (by assumption) ?_
  rotate_left
  · intro w' hSw; (try dsimp only at hSw); first | (go_simp; done) | (go_simp; with_reducible rfl)
  (try simp only [Act.put, List.setIfInBounds_toArray, List.set_cons_zero, List.set_cons_succ])
  refine wpAnyH_take (i := 67) (oi := { dst := some 130, op := Op.pick (Operand.tmp 123) (Operand.const (Value.bool true)) (Operand.tmp 129), type := 4, pos := "laws.go:609", after := #[{ on := 60, ground := Ground.data }, { on := 66, ground := Ground.data }], guard := none }) (v := ?_) rfl (by kernel_rfl) (by kernel_rfl) (by kernel_rfl) (fun _ _ _ h => h) (Or.inl ⟨by rfl, ?_⟩) (by assumption) ?_
  rotate_left
  · intro w' hSw; (try dsimp only at hSw); first | (go_simp; done) | (go_simp; with_reducible rfl)
  (try simp only [Act.put, List.setIfInBounds_toArray, List.set_cons_zero, List.set_cons_succ])
  refine wpAnyH_done (by kernel_rfl) ?_ _
  exact NoPanic.normal (HQ.out _ _ _ _ _ _ _ _ _ _ _ _ _ _ _ _ _ _ _ _ _ _ _ _ _ _ _ _ _ _ _ _ _ _ _ _ _ _ _ _ _ _ _ _ _ _ _ _ _ _ _ _ _ _ _ _ _ _ _ _ _ _ _ _ _ _ _  _  BB.out)

end Go.Proofs.YtbooamnlocobfaaGreat.Row
