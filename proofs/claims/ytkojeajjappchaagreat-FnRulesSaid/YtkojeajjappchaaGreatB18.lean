/- Contracts and mathematics, joined: RegU11. No conditions but those that each states. -/
import Derived.WalkKit
import Derived.Deep.RegionHeld3
import Derived.Test.YtkojeajjappchaaGreatB16
/- The great region of FnRules: whatever order is drawn, its last value is false. No conditions. -/
namespace Go.Proofs.YtkojeajjappchaaGreat.Row
open Go.ChangeShapes Go.WideShapes Go.ChangeAt Go.RowKit Go.Instr
set_option linter.unusedVariables false
set_option maxRecDepth 100000

set_option maxRecDepth 100000 in
set_option maxHeartbeats 4000000 in
theorem regU11 {Q : Exit → Act → World → Prop} {v0 v1 v2 v9 v18 v19 v20 v21 v22 v23 v24 v25 v26 v27 v28 v29 v30 v31 v32 v33 v34 v35 v36 v37 v38 v39 v40 v41 v42 v43 v44 v45 v46 v47 v48 v49 v50 v51 v52 v53 v54 v55 v56 v57 v58 v59 v60 v61 v62 v63 v64 v65 v66 v67 v68 v69 v70 v71 v72 v73 v74 v75 v76 v77 v78 v79 v80 v81 v82 v83 v84 v85 v86 v87 v88 v89 v90 v91 v92 v93 v94 v95 v96 v97 v98 v99 v100 v101 v102 v103 v104 v105 v106 v107 v108 v109 v110 v111 v112 v113 v114 v115 v116 v117 v118 v119 v120 v121 v122 v123 v124 v125 v126 v127 v128 v129 v130 v131 v132 v133 v134 v135 v136 v137 v138 v139 v140 v141 v142 v143 v144 v145 v146 v147 v148 v149 v150 v151 v152 v153 v154 v155 v156 v157 v158 v159 v160 v161 v162 v163 v164 v165 v166 v167 v168 v169 v170 v171 v172 v173 v174 v175 v176 v177 v178 v179 v180 v181 v182 v183 v184 : Value} {w : World} {br bx by_ bt bp bq bn bb bm bv : Nat} {k : Int} {ok z1 z2 z5 z6 z7 : Bool} {q3 q4 : ByteArray} {rn rb lm lw : List ByteArray} {tr xx tt ta tb : Rlt} {tl : List Rlt} {x_ra : Option Addr} {n_ra c_ra : Nat} {x_rb : Option Addr} {n_rb c_rb : Nat} {x_xa : Option Addr} {n_xa c_xa : Nat} {x_xb : Option Addr} {n_xb c_xb : Nat} {x_ya : Option Addr} {n_ya c_ya : Nat} {x_yb : Option Addr} {n_yb c_yb : Nat} {x_ta : Option Addr} {n_ta c_ta : Nat} {x_tb : Option Addr} {n_tb c_tb : Nat} {x_pa : Option Addr} {n_pa c_pa : Nat} {x_pb : Option Addr} {n_pb c_pb : Nat} {x_qa : Option Addr} {n_qa c_qa : Nat} {x_qb : Option Addr} {n_qb c_qb : Nat} {x_n : Option Addr} {n_n c_n : Nat} {x_b : Option Addr} {n_b c_b : Nat} {x_m : Option Addr} {n_m c_m : Nat} {x_v : Option Addr} {n_v c_v : Nat} {x_l : Option Addr} {n_l c_l : Nat} (H_r : Hid (kRl.At w (.agg #[.slice x_ra n_ra c_ra, .slice x_rb n_rb c_rb]) tr)) (H_x : Hid (kRl.At w (.agg #[.slice x_xa n_xa c_xa, .slice x_xb n_xb c_xb]) xx)) (H_y : Hid (kRl.At w (.agg #[.slice x_ya n_ya c_ya, .slice x_yb n_yb c_yb]) xx)) (H_t : Hid (kRl.At w (.agg #[.slice x_ta n_ta c_ta, .slice x_tb n_tb c_tb]) tt)) (H_p : Hid (kRl.At w (.agg #[.slice x_pa n_pa c_pa, .slice x_pb n_pb c_pb]) ta)) (H_q : Hid (kRl.At w (.agg #[.slice x_qa n_qa c_qa, .slice x_qb n_qb c_qb]) tb)) (H_n : Hid (kN.At w (.agg #[.slice x_n n_n c_n]) rn)) (H_b : Hid (kN.At w (.agg #[.slice x_b n_b c_b]) rb)) (H_m : Hid (kN.At w (.agg #[.slice x_m n_m c_m]) lm)) (H_v : Hid (kN.At w (.agg #[.slice x_v n_v c_v]) lw)) (H_l : Hid (kLRl.At w (.slice x_l n_l c_l) tl)) (HRL : Hid (RL10 tl)) (HK : Hid (firstR tl lm lw = k)) (HZ1 : Hid (allowsR tr rn rb = z1)) (HZ2 : Hid (decide (0 ≤ firstR tl lm lw) = z2)) (HQ3 : Hid (fmtR xx = q3)) (HQ4 : Hid (fmtR tt = q4)) (HZ5 : Hid (decide (ta = tb) = z5)) (HZ6 : Hid (validRs tl = z6)) (HZ7 : Hid (validR tt = z7)) (h1 : wtRl tr ≤ 9000000) (h2 : bulk rn ≤ 1000) (h3 : bulk rb ≤ 1000) (h4 : bulk lm ≤ 1000) (h5 : bulk lw ≤ 1000) (h6 : wtRl xx ≤ 9000000) (h7 : wtRl tt ≤ 9000000) (h8 : wtRl ta ≤ 9000000) (h9 : wtRl tb ≤ 9000000) (K0_r : Hid (w.cell? ⟨br, 0, none⟩ = some (.slice x_ra n_ra c_ra))) (K1_r : Hid (w.cell? ⟨br, 1, none⟩ = some (.slice x_rb n_rb c_rb))) (K0_x : Hid (w.cell? ⟨bx, 0, none⟩ = some (.slice x_xa n_xa c_xa))) (K1_x : Hid (w.cell? ⟨bx, 1, none⟩ = some (.slice x_xb n_xb c_xb))) (K0_y : Hid (w.cell? ⟨by_, 0, none⟩ = some (.slice x_ya n_ya c_ya))) (K1_y : Hid (w.cell? ⟨by_, 1, none⟩ = some (.slice x_yb n_yb c_yb))) (K0_t : Hid (w.cell? ⟨bt, 0, none⟩ = some (.slice x_ta n_ta c_ta))) (K1_t : Hid (w.cell? ⟨bt, 1, none⟩ = some (.slice x_tb n_tb c_tb))) (K0_p : Hid (w.cell? ⟨bp, 0, none⟩ = some (.slice x_pa n_pa c_pa))) (K1_p : Hid (w.cell? ⟨bp, 1, none⟩ = some (.slice x_pb n_pb c_pb))) (K0_q : Hid (w.cell? ⟨bq, 0, none⟩ = some (.slice x_qa n_qa c_qa))) (K1_q : Hid (w.cell? ⟨bq, 1, none⟩ = some (.slice x_qb n_qb c_qb))) (K0_n : Hid (w.cell? ⟨bn, 0, none⟩ = some (.slice x_n n_n c_n))) (K0_b : Hid (w.cell? ⟨bb, 0, none⟩ = some (.slice x_b n_b c_b))) (K0_m : Hid (w.cell? ⟨bm, 0, none⟩ = some (.slice x_m n_m c_m))) (K0_v : Hid (w.cell? ⟨bv, 0, none⟩ = some (.slice x_v n_v c_v)))
    (hQ : ∀ (u57 u58 u59 u60 u61 u62 u63 u64 u65 u66 u67 u68 u69 u70 u71 u72 u73 u74 u75 u76 u77 u78 u79 u80 u81 u82 u83 u84 u85 u86 u87 u88 u89 u90 u91 u92 u93 u94 u95 u96 u97 u98 u99 u100 u101 u102 u103 u104 u105 u106 u107 u108 u109 u110 u111 u112 u113 u114 u115 u116 u117 u118 u119 u120 u121 u122 u123 u124 u125 u126 u127 u128 u129 u130 u131 u132 : Value)  (wx : World), Below w.heap.size w wx → Q .normal ⟨#[v0, v1, v2, .pointer (some ⟨br, 0, none⟩), .pointer (some ⟨bn, 0, none⟩), .pointer (some ⟨bb, 0, none⟩), .slice x_l n_l c_l, .pointer (some ⟨bm, 0, none⟩), .pointer (some ⟨bv, 0, none⟩), v9, .pointer (some ⟨bx, 0, none⟩), .bool ok, .pointer (some ⟨by_, 0, none⟩), .bool ok, .pointer (some ⟨bt, 0, none⟩), .pointer (some ⟨bp, 0, none⟩), .pointer (some ⟨bq, 0, none⟩), .int .i64 k, v18, v19, v20, v21, v22, v23, v24, v25, v26, v27, v28, v29, v30, v31, v32, v33, v34, v35, v36, v37, v38, v39, v40, v41, v42, v43, v44, v45, v46, v47, v48, v49, v50, v51, v52, v53, v54, v55, v56, u57, u58, u59, u60, u61, u62, u63, u64, u65, u66, u67, u68, u69, u70, u71, u72, u73, u74, u75, u76, u77, u78, u79, u80, u81, u82, u83, u84, u85, u86, u87, u88, u89, u90, u91, u92, u93, u94, u95, u96, u97, u98, u99, u100, u101, u102, u103, u104, u105, u106, u107, u108, u109, u110, u111, u112, u113, u114, u115, u116, u117, u118, u119, u120, u121, u122, u123, u124, u125, u126, u127, u128, u129, u130, u131, u132, .bool false, v134, v135, v136, v137, v138, v139, v140, v141, v142, v143, v144, v145, v146, v147, v148, v149, v150, v151, v152, v153, v154, v155, v156, v157, v158, v159, v160, v161, v162, v163, v164, v165, v166, v167, v168, v169, v170, v171, v172, v173, v174, v175, v176, v177, v178, v179, v180, v181, v182, v183, v184], []⟩ wx) :
    (Code.region 11 #[{ dst := some 57, op := Op.load 28 (Operand.tmp 3), type := 28, pos := "laws.go:674", after := #[], guard := none },
      { dst := some 58, op := Op.load 29 (Operand.tmp 4), type := 29, pos := "laws.go:674", after := #[], guard := none },
      { dst := some 59, op := Op.load 29 (Operand.tmp 5), type := 29, pos := "laws.go:674", after := #[], guard := none },
      { dst := some 60, op := Op.call { callee := Callee.value (Operand.func 13), args := #[Operand.tmp 57, Operand.tmp 58, Operand.tmp 59], argTypes := #[28, 29, 29] }, type := 4, pos := "laws.go:674", after := #[{ on := 0, ground := Ground.data }, { on := 1, ground := Ground.data }, { on := 2, ground := Ground.data }], guard := none },
      { dst := some 61, op := Op.load 28 (Operand.tmp 3), type := 28, pos := "laws.go:674", after := #[], guard := none },
      { dst := some 62, op := Op.load 29 (Operand.tmp 4), type := 29, pos := "laws.go:674", after := #[], guard := none },
      { dst := some 63, op := Op.load 29 (Operand.tmp 5), type := 29, pos := "laws.go:674", after := #[], guard := none },
      { dst := some 64, op := Op.call { callee := Callee.value (Operand.func 14), args := #[Operand.tmp 61, Operand.tmp 62, Operand.tmp 63], argTypes := #[28, 29, 29] }, type := 4, pos := "laws.go:674", after := #[{ on := 4, ground := Ground.data }, { on := 5, ground := Ground.data }, { on := 6, ground := Ground.data }, { on := 3, ground := Ground.chain }], guard := none },
      { dst := some 65, op := Op.binOp BinOp.neq 4 (Operand.tmp 60) (Operand.tmp 64) 4, type := 4, pos := "laws.go:674", after := #[{ on := 3, ground := Ground.data }, { on := 7, ground := Ground.data }], guard := none },
      { dst := some 66, op := Op.move (Operand.tmp 65), type := 4, pos := "laws.go:674", after := #[{ on := 8, ground := Ground.data }, { on := 7, ground := Ground.chain }], guard := none },
      { dst := some 67, op := Op.move (Operand.tmp 6), type := 32, pos := "laws.go:674", after := #[{ on := 9, ground := Ground.guard }], guard := some (9, false) },
      { dst := some 68, op := Op.load 29 (Operand.tmp 7), type := 29, pos := "laws.go:674", after := #[{ on := 9, ground := Ground.guard }], guard := some (9, false) },
      { dst := some 69, op := Op.load 29 (Operand.tmp 8), type := 29, pos := "laws.go:674", after := #[{ on := 9, ground := Ground.guard }], guard := some (9, false) },
      { dst := some 70, op := Op.call { callee := Callee.value (Operand.func 15), args := #[Operand.tmp 67, Operand.tmp 68, Operand.tmp 69], argTypes := #[32, 29, 29] }, type := 4, pos := "laws.go:674", after := #[{ on := 10, ground := Ground.data }, { on := 11, ground := Ground.data }, { on := 12, ground := Ground.data }, { on := 9, ground := Ground.chain }, { on := 9, ground := Ground.guard }], guard := some (9, false) },
      { dst := some 71, op := Op.move (Operand.tmp 6), type := 32, pos := "laws.go:674", after := #[{ on := 9, ground := Ground.guard }], guard := some (9, false) },
      { dst := some 72, op := Op.load 29 (Operand.tmp 7), type := 29, pos := "laws.go:674", after := #[{ on := 9, ground := Ground.guard }], guard := some (9, false) },
      { dst := some 73, op := Op.load 29 (Operand.tmp 8), type := 29, pos := "laws.go:674", after := #[{ on := 9, ground := Ground.guard }], guard := some (9, false) },
      { dst := some 74, op := Op.call { callee := Callee.value (Operand.func 16), args := #[Operand.tmp 71, Operand.tmp 72, Operand.tmp 73], argTypes := #[32, 29, 29] }, type := 4, pos := "laws.go:674", after := #[{ on := 14, ground := Ground.data }, { on := 15, ground := Ground.data }, { on := 16, ground := Ground.data }, { on := 13, ground := Ground.chain }, { on := 9, ground := Ground.guard }], guard := some (9, false) },
      { dst := some 75, op := Op.binOp BinOp.neq 4 (Operand.tmp 70) (Operand.tmp 74) 4, type := 4, pos := "laws.go:674", after := #[{ on := 13, ground := Ground.data }, { on := 17, ground := Ground.data }, { on := 9, ground := Ground.guard }], guard := some (9, false) },
      { dst := some 76, op := Op.pick (Operand.tmp 66) (Operand.const (Value.bool true)) (Operand.tmp 75), type := 4, pos := "laws.go:674", after := #[{ on := 9, ground := Ground.data }, { on := 18, ground := Ground.data }], guard := none },
      { dst := some 77, op := Op.move (Operand.tmp 76), type := 4, pos := "laws.go:674", after := #[{ on := 19, ground := Ground.data }, { on := 17, ground := Ground.chain }], guard := none },
      { dst := some 78, op := Op.move (Operand.tmp 17), type := 3, pos := "laws.go:674", after := #[{ on := 20, ground := Ground.guard }], guard := some (20, false) },
      { dst := some 79, op := Op.move (Operand.tmp 6), type := 32, pos := "laws.go:674", after := #[{ on := 20, ground := Ground.guard }], guard := some (20, false) },
      { dst := some 80, op := Op.load 29 (Operand.tmp 7), type := 29, pos := "laws.go:674", after := #[{ on := 20, ground := Ground.guard }], guard := some (20, false) },
      { dst := some 81, op := Op.load 29 (Operand.tmp 8), type := 29, pos := "laws.go:674", after := #[{ on := 20, ground := Ground.guard }], guard := some (20, false) },
      { dst := some 82, op := Op.call { callee := Callee.value (Operand.func 17), args := #[Operand.tmp 79, Operand.tmp 80, Operand.tmp 81], argTypes := #[32, 29, 29] }, type := 3, pos := "laws.go:674", after := #[{ on := 22, ground := Ground.data }, { on := 23, ground := Ground.data }, { on := 24, ground := Ground.data }, { on := 20, ground := Ground.chain }, { on := 20, ground := Ground.guard }], guard := some (20, false) },
      { dst := some 83, op := Op.binOp BinOp.neq 3 (Operand.tmp 78) (Operand.tmp 82) 3, type := 4, pos := "laws.go:674", after := #[{ on := 21, ground := Ground.data }, { on := 25, ground := Ground.data }, { on := 20, ground := Ground.guard }], guard := some (20, false) },
      { dst := some 84, op := Op.pick (Operand.tmp 77) (Operand.const (Value.bool true)) (Operand.tmp 83), type := 4, pos := "laws.go:674", after := #[{ on := 20, ground := Ground.data }, { on := 26, ground := Ground.data }], guard := none },
      { dst := some 85, op := Op.move (Operand.tmp 84), type := 4, pos := "laws.go:674", after := #[{ on := 27, ground := Ground.data }, { on := 25, ground := Ground.chain }], guard := none },
      { dst := some 86, op := Op.load 28 (Operand.tmp 10), type := 28, pos := "laws.go:674", after := #[{ on := 28, ground := Ground.guard }], guard := some (28, false) },
      { dst := some 87, op := Op.call { callee := Callee.value (Operand.func 18), args := #[Operand.tmp 86], argTypes := #[28] }, type := 9, pos := "laws.go:674", after := #[{ on := 29, ground := Ground.data }, { on := 28, ground := Ground.chain }, { on := 28, ground := Ground.guard }], guard := some (28, false) },
      { dst := some 88, op := Op.load 28 (Operand.tmp 10), type := 28, pos := "laws.go:674", after := #[{ on := 28, ground := Ground.guard }], guard := some (28, false) },
      { dst := some 89, op := Op.call { callee := Callee.value (Operand.func 19), args := #[Operand.tmp 88], argTypes := #[28] }, type := 9, pos := "laws.go:674", after := #[{ on := 31, ground := Ground.data }, { on := 30, ground := Ground.chain }, { on := 28, ground := Ground.guard }], guard := some (28, false) },
      { dst := some 90, op := Op.binOp BinOp.neq 9 (Operand.tmp 87) (Operand.tmp 89) 9, type := 4, pos := "laws.go:674", after := #[{ on := 30, ground := Ground.data }, { on := 32, ground := Ground.data }, { on := 28, ground := Ground.guard }], guard := some (28, false) },
      { dst := some 91, op := Op.pick (Operand.tmp 85) (Operand.const (Value.bool true)) (Operand.tmp 90), type := 4, pos := "laws.go:674", after := #[{ on := 28, ground := Ground.data }, { on := 33, ground := Ground.data }], guard := none },
      { dst := some 92, op := Op.move (Operand.tmp 91), type := 4, pos := "laws.go:674", after := #[{ on := 34, ground := Ground.data }, { on := 32, ground := Ground.chain }], guard := none },
      { dst := some 93, op := Op.move (Operand.tmp 11), type := 4, pos := "laws.go:674", after := #[{ on := 35, ground := Ground.guard }], guard := some (35, false) },
      { dst := some 94, op := Op.move (Operand.tmp 13), type := 4, pos := "laws.go:674", after := #[{ on := 35, ground := Ground.guard }], guard := some (35, false) },
      { dst := some 95, op := Op.binOp BinOp.neq 4 (Operand.tmp 93) (Operand.tmp 94) 4, type := 4, pos := "laws.go:674", after := #[{ on := 36, ground := Ground.data }, { on := 37, ground := Ground.data }, { on := 35, ground := Ground.guard }], guard := some (35, false) },
      { dst := some 96, op := Op.pick (Operand.tmp 92) (Operand.const (Value.bool true)) (Operand.tmp 95), type := 4, pos := "laws.go:674", after := #[{ on := 35, ground := Ground.data }, { on := 38, ground := Ground.data }], guard := none },
      { dst := some 97, op := Op.move (Operand.tmp 96), type := 4, pos := "laws.go:674", after := #[{ on := 39, ground := Ground.data }, { on := 35, ground := Ground.chain }], guard := none },
      { dst := some 98, op := Op.load 28 (Operand.tmp 12), type := 28, pos := "laws.go:674", after := #[{ on := 40, ground := Ground.guard }], guard := some (40, false) },
      { dst := some 99, op := Op.call { callee := Callee.value (Operand.func 18), args := #[Operand.tmp 98], argTypes := #[28] }, type := 9, pos := "laws.go:674", after := #[{ on := 41, ground := Ground.data }, { on := 40, ground := Ground.chain }, { on := 40, ground := Ground.guard }], guard := some (40, false) },
      { dst := some 100, op := Op.load 28 (Operand.tmp 10), type := 28, pos := "laws.go:674", after := #[{ on := 40, ground := Ground.guard }], guard := some (40, false) },
      { dst := some 101, op := Op.call { callee := Callee.value (Operand.func 18), args := #[Operand.tmp 100], argTypes := #[28] }, type := 9, pos := "laws.go:674", after := #[{ on := 43, ground := Ground.data }, { on := 42, ground := Ground.chain }, { on := 40, ground := Ground.guard }], guard := some (40, false) },
      { dst := some 102, op := Op.binOp BinOp.neq 9 (Operand.tmp 99) (Operand.tmp 101) 9, type := 4, pos := "laws.go:674", after := #[{ on := 42, ground := Ground.data }, { on := 44, ground := Ground.data }, { on := 40, ground := Ground.guard }], guard := some (40, false) },
      { dst := some 103, op := Op.pick (Operand.tmp 97) (Operand.const (Value.bool true)) (Operand.tmp 102), type := 4, pos := "laws.go:674", after := #[{ on := 40, ground := Ground.data }, { on := 45, ground := Ground.data }], guard := none },
      { dst := some 104, op := Op.move (Operand.tmp 103), type := 4, pos := "laws.go:674", after := #[{ on := 46, ground := Ground.data }, { on := 44, ground := Ground.chain }], guard := none },
      { dst := some 105, op := Op.load 28 (Operand.tmp 14), type := 28, pos := "laws.go:674", after := #[{ on := 47, ground := Ground.guard }], guard := some (47, false) },
      { dst := some 106, op := Op.call { callee := Callee.value (Operand.func 18), args := #[Operand.tmp 105], argTypes := #[28] }, type := 9, pos := "laws.go:674", after := #[{ on := 48, ground := Ground.data }, { on := 47, ground := Ground.chain }, { on := 47, ground := Ground.guard }], guard := some (47, false) },
      { dst := some 107, op := Op.load 28 (Operand.tmp 14), type := 28, pos := "laws.go:674", after := #[{ on := 47, ground := Ground.guard }], guard := some (47, false) },
      { dst := some 108, op := Op.call { callee := Callee.value (Operand.func 19), args := #[Operand.tmp 107], argTypes := #[28] }, type := 9, pos := "laws.go:674", after := #[{ on := 50, ground := Ground.data }, { on := 49, ground := Ground.chain }, { on := 47, ground := Ground.guard }], guard := some (47, false) },
      { dst := some 109, op := Op.binOp BinOp.neq 9 (Operand.tmp 106) (Operand.tmp 108) 9, type := 4, pos := "laws.go:674", after := #[{ on := 49, ground := Ground.data }, { on := 51, ground := Ground.data }, { on := 47, ground := Ground.guard }], guard := some (47, false) },
      { dst := some 110, op := Op.pick (Operand.tmp 104) (Operand.const (Value.bool true)) (Operand.tmp 109), type := 4, pos := "laws.go:674", after := #[{ on := 47, ground := Ground.data }, { on := 52, ground := Ground.data }], guard := none },
      { dst := some 111, op := Op.move (Operand.tmp 110), type := 4, pos := "laws.go:674", after := #[{ on := 53, ground := Ground.data }, { on := 51, ground := Ground.chain }], guard := none },
      { dst := some 112, op := Op.load 28 (Operand.tmp 15), type := 28, pos := "laws.go:674", after := #[{ on := 54, ground := Ground.guard }], guard := some (54, false) },
      { dst := some 113, op := Op.load 28 (Operand.tmp 16), type := 28, pos := "laws.go:674", after := #[{ on := 54, ground := Ground.guard }], guard := some (54, false) },
      { dst := some 114, op := Op.call { callee := Callee.value (Operand.func 20), args := #[Operand.tmp 112, Operand.tmp 113], argTypes := #[28, 28] }, type := 4, pos := "laws.go:674", after := #[{ on := 55, ground := Ground.data }, { on := 56, ground := Ground.data }, { on := 54, ground := Ground.chain }, { on := 54, ground := Ground.guard }], guard := some (54, false) },
      { dst := some 115, op := Op.load 28 (Operand.tmp 15), type := 28, pos := "laws.go:674", after := #[{ on := 54, ground := Ground.guard }], guard := some (54, false) },
      { dst := some 116, op := Op.load 28 (Operand.tmp 16), type := 28, pos := "laws.go:674", after := #[{ on := 54, ground := Ground.guard }], guard := some (54, false) },
      { dst := some 117, op := Op.call { callee := Callee.value (Operand.func 21), args := #[Operand.tmp 115, Operand.tmp 116], argTypes := #[28, 28] }, type := 4, pos := "laws.go:674", after := #[{ on := 58, ground := Ground.data }, { on := 59, ground := Ground.data }, { on := 57, ground := Ground.chain }, { on := 54, ground := Ground.guard }], guard := some (54, false) },
      { dst := some 118, op := Op.binOp BinOp.neq 4 (Operand.tmp 114) (Operand.tmp 117) 4, type := 4, pos := "laws.go:674", after := #[{ on := 57, ground := Ground.data }, { on := 60, ground := Ground.data }, { on := 54, ground := Ground.guard }], guard := some (54, false) },
      { dst := some 119, op := Op.pick (Operand.tmp 111) (Operand.const (Value.bool true)) (Operand.tmp 118), type := 4, pos := "laws.go:674", after := #[{ on := 54, ground := Ground.data }, { on := 61, ground := Ground.data }], guard := none },
      { dst := some 120, op := Op.move (Operand.tmp 119), type := 4, pos := "laws.go:674", after := #[{ on := 62, ground := Ground.data }, { on := 60, ground := Ground.chain }], guard := none },
      { dst := some 121, op := Op.move (Operand.tmp 6), type := 32, pos := "laws.go:674", after := #[{ on := 63, ground := Ground.guard }], guard := some (63, false) },
      { dst := some 122, op := Op.call { callee := Callee.value (Operand.func 22), args := #[Operand.tmp 121], argTypes := #[32] }, type := 4, pos := "laws.go:674", after := #[{ on := 64, ground := Ground.data }, { on := 63, ground := Ground.chain }, { on := 63, ground := Ground.guard }], guard := some (63, false) },
      { dst := some 123, op := Op.move (Operand.tmp 6), type := 32, pos := "laws.go:674", after := #[{ on := 63, ground := Ground.guard }], guard := some (63, false) },
      { dst := some 124, op := Op.call { callee := Callee.value (Operand.func 23), args := #[Operand.tmp 123], argTypes := #[32] }, type := 4, pos := "laws.go:674", after := #[{ on := 66, ground := Ground.data }, { on := 65, ground := Ground.chain }, { on := 63, ground := Ground.guard }], guard := some (63, false) },
      { dst := some 125, op := Op.binOp BinOp.neq 4 (Operand.tmp 122) (Operand.tmp 124) 4, type := 4, pos := "laws.go:674", after := #[{ on := 65, ground := Ground.data }, { on := 67, ground := Ground.data }, { on := 63, ground := Ground.guard }], guard := some (63, false) },
      { dst := some 126, op := Op.pick (Operand.tmp 120) (Operand.const (Value.bool true)) (Operand.tmp 125), type := 4, pos := "laws.go:674", after := #[{ on := 63, ground := Ground.data }, { on := 68, ground := Ground.data }], guard := none },
      { dst := some 127, op := Op.move (Operand.tmp 126), type := 4, pos := "laws.go:674", after := #[{ on := 69, ground := Ground.data }, { on := 67, ground := Ground.chain }], guard := none },
      { dst := some 128, op := Op.load 28 (Operand.tmp 14), type := 28, pos := "laws.go:674", after := #[{ on := 70, ground := Ground.guard }], guard := some (70, false) },
      { dst := some 129, op := Op.call { callee := Callee.value (Operand.func 24), args := #[Operand.tmp 128], argTypes := #[28] }, type := 4, pos := "laws.go:674", after := #[{ on := 71, ground := Ground.data }, { on := 70, ground := Ground.chain }, { on := 70, ground := Ground.guard }], guard := some (70, false) },
      { dst := some 130, op := Op.load 28 (Operand.tmp 14), type := 28, pos := "laws.go:674", after := #[{ on := 70, ground := Ground.guard }], guard := some (70, false) },
      { dst := some 131, op := Op.call { callee := Callee.value (Operand.func 25), args := #[Operand.tmp 130], argTypes := #[28] }, type := 4, pos := "laws.go:674", after := #[{ on := 73, ground := Ground.data }, { on := 72, ground := Ground.chain }, { on := 70, ground := Ground.guard }], guard := some (70, false) },
      { dst := some 132, op := Op.binOp BinOp.neq 4 (Operand.tmp 129) (Operand.tmp 131) 4, type := 4, pos := "laws.go:674", after := #[{ on := 72, ground := Ground.data }, { on := 74, ground := Ground.data }, { on := 70, ground := Ground.guard }], guard := some (70, false) },
      { dst := some 133, op := Op.pick (Operand.tmp 127) (Operand.const (Value.bool true)) (Operand.tmp 132), type := 4, pos := "laws.go:674", after := #[{ on := 70, ground := Ground.data }, { on := 75, ground := Ground.data }], guard := none }] true).wp Tryz.prog Q ⟨#[v0, v1, v2, .pointer (some ⟨br, 0, none⟩), .pointer (some ⟨bn, 0, none⟩), .pointer (some ⟨bb, 0, none⟩), .slice x_l n_l c_l, .pointer (some ⟨bm, 0, none⟩), .pointer (some ⟨bv, 0, none⟩), v9, .pointer (some ⟨bx, 0, none⟩), .bool ok, .pointer (some ⟨by_, 0, none⟩), .bool ok, .pointer (some ⟨bt, 0, none⟩), .pointer (some ⟨bp, 0, none⟩), .pointer (some ⟨bq, 0, none⟩), .int .i64 k, v18, v19, v20, v21, v22, v23, v24, v25, v26, v27, v28, v29, v30, v31, v32, v33, v34, v35, v36, v37, v38, v39, v40, v41, v42, v43, v44, v45, v46, v47, v48, v49, v50, v51, v52, v53, v54, v55, v56, v57, v58, v59, v60, v61, v62, v63, v64, v65, v66, v67, v68, v69, v70, v71, v72, v73, v74, v75, v76, v77, v78, v79, v80, v81, v82, v83, v84, v85, v86, v87, v88, v89, v90, v91, v92, v93, v94, v95, v96, v97, v98, v99, v100, v101, v102, v103, v104, v105, v106, v107, v108, v109, v110, v111, v112, v113, v114, v115, v116, v117, v118, v119, v120, v121, v122, v123, v124, v125, v126, v127, v128, v129, v130, v131, v132, v133, v134, v135, v136, v137, v138, v139, v140, v141, v142, v143, v144, v145, v146, v147, v148, v149, v150, v151, v152, v153, v154, v155, v156, v157, v158, v159, v160, v161, v162, v163, v164, v165, v166, v167, v168, v169, v170, v171, v172, v173, v174, v175, v176, v177, v178, v179, v180, v181, v182, v183, v184], []⟩ w := by
  have HQ := Lib.hid hQ; clear hQ
  have hdr : Below w.heap.size w w.drew := (Below.refl _ _).drew
  have BB := Lib.hid hdr
  refine wp_region_noPanic ?_
  refine wp_region_held_drew (S := (fun w' => w'.cell? ⟨br, 0, none⟩ = some (.slice x_ra n_ra c_ra) ∧ w'.cell? ⟨br, 1, none⟩ = some (.slice x_rb n_rb c_rb) ∧ w'.cell? ⟨bx, 0, none⟩ = some (.slice x_xa n_xa c_xa) ∧ w'.cell? ⟨bx, 1, none⟩ = some (.slice x_xb n_xb c_xb) ∧ w'.cell? ⟨by_, 0, none⟩ = some (.slice x_ya n_ya c_ya) ∧ w'.cell? ⟨by_, 1, none⟩ = some (.slice x_yb n_yb c_yb) ∧ w'.cell? ⟨bt, 0, none⟩ = some (.slice x_ta n_ta c_ta) ∧ w'.cell? ⟨bt, 1, none⟩ = some (.slice x_tb n_tb c_tb) ∧ w'.cell? ⟨bp, 0, none⟩ = some (.slice x_pa n_pa c_pa) ∧ w'.cell? ⟨bp, 1, none⟩ = some (.slice x_pb n_pb c_pb) ∧ w'.cell? ⟨bq, 0, none⟩ = some (.slice x_qa n_qa c_qa) ∧ w'.cell? ⟨bq, 1, none⟩ = some (.slice x_qb n_qb c_qb) ∧ w'.cell? ⟨bn, 0, none⟩ = some (.slice x_n n_n c_n) ∧ w'.cell? ⟨bb, 0, none⟩ = some (.slice x_b n_b c_b) ∧ w'.cell? ⟨bm, 0, none⟩ = some (.slice x_m n_m c_m) ∧ w'.cell? ⟨bv, 0, none⟩ = some (.slice x_v n_v c_v))) (by kernel_rfl) ?_ (fun hHeld => ?_)
  · exact ⟨kc K0_r.out BB.out, kc K1_r.out BB.out, kc K0_x.out BB.out, kc K1_x.out BB.out, kc K0_y.out BB.out, kc K1_y.out BB.out, kc K0_t.out BB.out, kc K1_t.out BB.out, kc K0_p.out BB.out, kc K1_p.out BB.out, kc K0_q.out BB.out, kc K1_q.out BB.out, kc K0_n.out BB.out, kc K0_b.out BB.out, kc K0_m.out BB.out, kc K0_v.out BB.out⟩
  clear hdr
  generalize w.drew = wd at *
  refine wpAnyH_take (i := 0) (oi := { dst := some 57, op := Op.load 28 (Operand.tmp 3), type := 28, pos := "laws.go:674", after := #[], guard := none }) (v := ?_) rfl (by kernel_rfl) (by kernel_rfl) (by kernel_rfl) (fun _ _ _ h => h) (Or.inl ⟨by rfl, ?_⟩) (by assumption) ?_
  rotate_left
  · intro w' hSw; (try dsimp only at hSw); first | (go_simp; done) | (go_simp; with_reducible rfl)
  (try simp only [Act.put, List.setIfInBounds_toArray, List.set_cons_zero, List.set_cons_succ])
  refine wpAnyH_take (i := 1) (oi := { dst := some 58, op := Op.load 29 (Operand.tmp 4), type := 29, pos := "laws.go:674", after := #[], guard := none }) (v := ?_) rfl (by kernel_rfl) (by kernel_rfl) (by kernel_rfl) (fun _ _ _ h => h) (Or.inl ⟨by rfl, ?_⟩) (by assumption) ?_
  rotate_left
  · intro w' hSw; (try dsimp only at hSw); first | (go_simp; done) | (go_simp; with_reducible rfl)
  (try simp only [Act.put, List.setIfInBounds_toArray, List.set_cons_zero, List.set_cons_succ])
  refine wpAnyH_take (i := 2) (oi := { dst := some 59, op := Op.load 29 (Operand.tmp 5), type := 29, pos := "laws.go:674", after := #[], guard := none }) (v := ?_) rfl (by kernel_rfl) (by kernel_rfl) (by kernel_rfl) (fun _ _ _ h => h) (Or.inl ⟨by rfl, ?_⟩) (by assumption) ?_
  rotate_left
  · intro w' hSw; (try dsimp only at hSw); first | (go_simp; done) | (go_simp; with_reducible rfl)
  (try simp only [Act.put, List.setIfInBounds_toArray, List.set_cons_zero, List.set_cons_succ])
  refine wpAnyH_take (i := 4) (oi := { dst := some 61, op := Op.load 28 (Operand.tmp 3), type := 28, pos := "laws.go:674", after := #[], guard := none }) (v := ?_) rfl (by kernel_rfl) (by kernel_rfl) (by kernel_rfl) (fun _ _ _ h => h) (Or.inl ⟨by rfl, ?_⟩) (by assumption) ?_
  rotate_left
  · intro w' hSw; (try dsimp only at hSw); first | (go_simp; done) | (go_simp; with_reducible rfl)
  (try simp only [Act.put, List.setIfInBounds_toArray, List.set_cons_zero, List.set_cons_succ])
  refine wpAnyH_take (i := 5) (oi := { dst := some 62, op := Op.load 29 (Operand.tmp 4), type := 29, pos := "laws.go:674", after := #[], guard := none }) (v := ?_) rfl (by kernel_rfl) (by kernel_rfl) (by kernel_rfl) (fun _ _ _ h => h) (Or.inl ⟨by rfl, ?_⟩) (by assumption) ?_
  rotate_left
  · intro w' hSw; (try dsimp only at hSw); first | (go_simp; done) | (go_simp; with_reducible rfl)
  (try simp only [Act.put, List.setIfInBounds_toArray, List.set_cons_zero, List.set_cons_succ])
  refine wpAnyH_take (i := 6) (oi := { dst := some 63, op := Op.load 29 (Operand.tmp 5), type := 29, pos := "laws.go:674", after := #[], guard := none }) (v := ?_) rfl (by kernel_rfl) (by kernel_rfl) (by kernel_rfl) (fun _ _ _ h => h) (Or.inl ⟨by rfl, ?_⟩) (by assumption) ?_
  rotate_left
  · intro w' hSw; (try dsimp only at hSw); first | (go_simp; done) | (go_simp; with_reducible rfl)
  (try simp only [Act.put, List.setIfInBounds_toArray, List.set_cons_zero, List.set_cons_succ])
  refine wpAnyH_ready (rs := [3]) (by kernel_rfl) (by simp) ?_
  refine AllReadyH.cons (o := { dst := some 60, op := Op.call { callee := Callee.value (Operand.func 13), args := #[Operand.tmp 57, Operand.tmp 58, Operand.tmp 59], argTypes := #[28, 29, 29] }, type := 4, pos := "laws.go:674", after := #[{ on := 0, ground := Ground.data }, { on := 1, ground := Ground.data }, { on := 2, ground := Ground.data }], guard := none }) rfl (fun K hK => ?_) AllReadyH.nil
  go_simp
  refine (iRaV z1 HZ1.out (H_r.out.on BB.out) (H_n.out.on BB.out) (H_b.out.on BB.out) h1 h2 h3).mono ?_
  rintro e wn1 ⟨rfl, hb⟩
  replace BB := Lib.hid (BB.out.trans (hb.mono BB.out.size))
  clear hb
  (try go_wp2_with fail)
  clear hHeld
  refine hK.out _ _ ?_ (fun hHeld => ?_)
  · (try dsimp only); exact ⟨kc K0_r.out BB.out, kc K1_r.out BB.out, kc K0_x.out BB.out, kc K1_x.out BB.out, kc K0_y.out BB.out, kc K1_y.out BB.out, kc K0_t.out BB.out, kc K1_t.out BB.out, kc K0_p.out BB.out, kc K1_p.out BB.out, kc K0_q.out BB.out, kc K1_q.out BB.out, kc K0_n.out BB.out, kc K0_b.out BB.out, kc K0_m.out BB.out, kc K0_v.out BB.out⟩
  clear hK K
  (try simp only [Act.put, List.setIfInBounds_toArray, List.set_cons_zero, List.set_cons_succ])
  refine wpAnyH_ready (rs := [7]) (by kernel_rfl) (by simp) ?_
  refine AllReadyH.cons (o := { dst := some 64, op := Op.call { callee := Callee.value (Operand.func 14), args := #[Operand.tmp 61, Operand.tmp 62, Operand.tmp 63], argTypes := #[28, 29, 29] }, type := 4, pos := "laws.go:674", after := #[{ on := 4, ground := Ground.data }, { on := 5, ground := Ground.data }, { on := 6, ground := Ground.data }, { on := 3, ground := Ground.chain }], guard := none }) rfl (fun K hK => ?_) AllReadyH.nil
  go_simp
  refine (sRaV z1 HZ1.out (H_r.out.on BB.out) (H_n.out.on BB.out) (H_b.out.on BB.out) h1 h2 h3).mono ?_
  rintro e wn2 ⟨rfl, hb⟩
  replace BB := Lib.hid (BB.out.trans (hb.mono BB.out.size))
  clear hb
  (try go_wp2_with fail)
  clear hHeld
  refine hK.out _ _ ?_ (fun hHeld => ?_)
  · (try dsimp only); exact ⟨kc K0_r.out BB.out, kc K1_r.out BB.out, kc K0_x.out BB.out, kc K1_x.out BB.out, kc K0_y.out BB.out, kc K1_y.out BB.out, kc K0_t.out BB.out, kc K1_t.out BB.out, kc K0_p.out BB.out, kc K1_p.out BB.out, kc K0_q.out BB.out, kc K1_q.out BB.out, kc K0_n.out BB.out, kc K0_b.out BB.out, kc K0_m.out BB.out, kc K0_v.out BB.out⟩
  clear hK K
  (try simp only [Act.put, List.setIfInBounds_toArray, List.set_cons_zero, List.set_cons_succ])
  refine wpAnyH_take (i := 8) (oi := { dst := some 65, op := Op.binOp BinOp.neq 4 (Operand.tmp 60) (Operand.tmp 64) 4, type := 4, pos := "laws.go:674", after := #[{ on := 3, ground := Ground.data }, { on := 7, ground := Ground.data }], guard := none }) (v := ?_) rfl (by kernel_rfl) (by kernel_rfl) (by kernel_rfl) (fun _ _ _ h => h) (Or.inl ⟨by rfl, ?_⟩) (by assumption) ?_
  rotate_left
  · intro w' hSw; (try dsimp only at hSw); first | (go_simp; done) | (go_simp; with_reducible rfl)
  (try simp only [Act.put, List.setIfInBounds_toArray, List.set_cons_zero, List.set_cons_succ])
  refine wpAnyH_take (i := 9) (oi := { dst := some 66, op := Op.move (Operand.tmp 65), type := 4, pos := "laws.go:674", after := #[{ on := 8, ground := Ground.data }, { on := 7, ground := Ground.chain }], guard := none }) (v := ?_) rfl (by kernel_rfl) (by kernel_rfl) (by kernel_rfl) (fun _ _ _ h => h) (Or.inl ⟨by rfl, ?_⟩) (by assumption) ?_
  rotate_left
  · intro w' hSw; (try dsimp only at hSw); first | (go_simp; done) | (go_simp; with_reducible rfl)
  (try simp only [Act.put, List.setIfInBounds_toArray, List.set_cons_zero, List.set_cons_succ])
  refine wpAnyH_take (i := 10) (oi := { dst := some 67, op := Op.move (Operand.tmp 6), type := 32, pos := "laws.go:674", after := #[{ on := 9, ground := Ground.guard }], guard := some (9, false) }) (v := ?_) rfl (by kernel_rfl) (by kernel_rfl) (by kernel_rfl) (fun _ _ _ h => h) (Or.inl ⟨by rfl, ?_⟩) (by assumption) ?_
  rotate_left
  · intro w' hSw; (try dsimp only at hSw); first | (go_simp; done) | (go_simp; with_reducible rfl)
  (try simp only [Act.put, List.setIfInBounds_toArray, List.set_cons_zero, List.set_cons_succ])
  refine wpAnyH_take (i := 11) (oi := { dst := some 68, op := Op.load 29 (Operand.tmp 7), type := 29, pos := "laws.go:674", after := #[{ on := 9, ground := Ground.guard }], guard := some (9, false) }) (v := ?_) rfl (by kernel_rfl) (by kernel_rfl) (by kernel_rfl) (fun _ _ _ h => h) (Or.inl ⟨by rfl, ?_⟩) (by assumption) ?_
  rotate_left
  · intro w' hSw; (try dsimp only at hSw); first | (go_simp; done) | (go_simp; with_reducible rfl)
  (try simp only [Act.put, List.setIfInBounds_toArray, List.set_cons_zero, List.set_cons_succ])
  refine wpAnyH_take (i := 12) (oi := { dst := some 69, op := Op.load 29 (Operand.tmp 8), type := 29, pos := "laws.go:674", after := #[{ on := 9, ground := Ground.guard }], guard := some (9, false) }) (v := ?_) rfl (by kernel_rfl) (by kernel_rfl) (by kernel_rfl) (fun _ _ _ h => h) (Or.inl ⟨by rfl, ?_⟩) (by assumption) ?_
  rotate_left
  · intro w' hSw; (try dsimp only at hSw); first | (go_simp; done) | (go_simp; with_reducible rfl)
  (try simp only [Act.put, List.setIfInBounds_toArray, List.set_cons_zero, List.set_cons_succ])
  refine wpAnyH_take (i := 14) (oi := { dst := some 71, op := Op.move (Operand.tmp 6), type := 32, pos := "laws.go:674", after := #[{ on := 9, ground := Ground.guard }], guard := some (9, false) }) (v := ?_) rfl (by kernel_rfl) (by kernel_rfl) (by kernel_rfl) (fun _ _ _ h => h) (Or.inl ⟨by rfl, ?_⟩) (by assumption) ?_
  rotate_left
  · intro w' hSw; (try dsimp only at hSw); first | (go_simp; done) | (go_simp; with_reducible rfl)
  (try simp only [Act.put, List.setIfInBounds_toArray, List.set_cons_zero, List.set_cons_succ])
  refine wpAnyH_take (i := 15) (oi := { dst := some 72, op := Op.load 29 (Operand.tmp 7), type := 29, pos := "laws.go:674", after := #[{ on := 9, ground := Ground.guard }], guard := some (9, false) }) (v := ?_) rfl (by kernel_rfl) (by kernel_rfl) (by kernel_rfl) (fun _ _ _ h => h) (Or.inl ⟨by rfl, ?_⟩) (by assumption) ?_
  rotate_left
  · intro w' hSw; (try dsimp only at hSw); first | (go_simp; done) | (go_simp; with_reducible rfl)
  (try simp only [Act.put, List.setIfInBounds_toArray, List.set_cons_zero, List.set_cons_succ])
  refine wpAnyH_take (i := 16) (oi := { dst := some 73, op := Op.load 29 (Operand.tmp 8), type := 29, pos := "laws.go:674", after := #[{ on := 9, ground := Ground.guard }], guard := some (9, false) }) (v := ?_) rfl (by kernel_rfl) (by kernel_rfl) (by kernel_rfl) (fun _ _ _ h => h) (Or.inl ⟨by rfl, ?_⟩) (by assumption) ?_
  rotate_left
  · intro w' hSw; (try dsimp only at hSw); first | (go_simp; done) | (go_simp; with_reducible rfl)
  (try simp only [Act.put, List.setIfInBounds_toArray, List.set_cons_zero, List.set_cons_succ])
  refine wpAnyH_ready (rs := [13]) (by kernel_rfl) (by simp) ?_
  refine AllReadyH.cons (o := { dst := some 70, op := Op.call { callee := Callee.value (Operand.func 15), args := #[Operand.tmp 67, Operand.tmp 68, Operand.tmp 69], argTypes := #[32, 29, 29] }, type := 4, pos := "laws.go:674", after := #[{ on := 10, ground := Ground.data }, { on := 11, ground := Ground.data }, { on := 12, ground := Ground.data }, { on := 9, ground := Ground.chain }, { on := 9, ground := Ground.guard }], guard := some (9, false) }) rfl (fun K hK => ?_) AllReadyH.nil
  go_simp
  refine (iAlV z2 HZ2.out (H_l.out.on BB.out) (H_m.out.on BB.out) (H_v.out.on BB.out) HRL.out h4 h5).mono ?_
  rintro e wn3 ⟨rfl, hb⟩
  replace BB := Lib.hid (BB.out.trans (hb.mono BB.out.size))
  clear hb
  (try go_wp2_with fail)
  clear hHeld
  refine hK.out _ _ ?_ (fun hHeld => ?_)
  · (try dsimp only); exact ⟨kc K0_r.out BB.out, kc K1_r.out BB.out, kc K0_x.out BB.out, kc K1_x.out BB.out, kc K0_y.out BB.out, kc K1_y.out BB.out, kc K0_t.out BB.out, kc K1_t.out BB.out, kc K0_p.out BB.out, kc K1_p.out BB.out, kc K0_q.out BB.out, kc K1_q.out BB.out, kc K0_n.out BB.out, kc K0_b.out BB.out, kc K0_m.out BB.out, kc K0_v.out BB.out⟩
  clear hK K
  (try simp only [Act.put, List.setIfInBounds_toArray, List.set_cons_zero, List.set_cons_succ])
  refine wpAnyH_ready (rs := [17]) (by kernel_rfl) (by simp) ?_
  refine AllReadyH.cons (o := { dst := some 74, op := Op.call { callee := Callee.value (Operand.func 16), args := #[Operand.tmp 71, Operand.tmp 72, Operand.tmp 73], argTypes := #[32, 29, 29] }, type := 4, pos := "laws.go:674", after := #[{ on := 14, ground := Ground.data }, { on := 15, ground := Ground.data }, { on := 16, ground := Ground.data }, { on := 13, ground := Ground.chain }, { on := 9, ground := Ground.guard }], guard := some (9, false) }) rfl (fun K hK => ?_) AllReadyH.nil
  go_simp
  refine (sAlV z2 HZ2.out (H_l.out.on BB.out) (H_m.out.on BB.out) (H_v.out.on BB.out) HRL.out h4 h5).mono ?_
  rintro e wn4 ⟨rfl, hb⟩
  replace BB := Lib.hid (BB.out.trans (hb.mono BB.out.size))
  clear hb
  (try go_wp2_with fail)
  clear hHeld
  refine hK.out _ _ ?_ (fun hHeld => ?_)
  · (try dsimp only); exact ⟨kc K0_r.out BB.out, kc K1_r.out BB.out, kc K0_x.out BB.out, kc K1_x.out BB.out, kc K0_y.out BB.out, kc K1_y.out BB.out, kc K0_t.out BB.out, kc K1_t.out BB.out, kc K0_p.out BB.out, kc K1_p.out BB.out, kc K0_q.out BB.out, kc K1_q.out BB.out, kc K0_n.out BB.out, kc K0_b.out BB.out, kc K0_m.out BB.out, kc K0_v.out BB.out⟩
  clear hK K
  (try simp only [Act.put, List.setIfInBounds_toArray, List.set_cons_zero, List.set_cons_succ])
  refine wpAnyH_take (i := 18) (oi := { dst := some 75, op := Op.binOp BinOp.neq 4 (Operand.tmp 70) (Operand.tmp 74) 4, type := 4, pos := "laws.go:674", after := #[{ on := 13, ground := Ground.data }, { on := 17, ground := Ground.data }, { on := 9, ground := Ground.guard }], guard := some (9, false) }) (v := ?_) rfl (by kernel_rfl) (by kernel_rfl) (by kernel_rfl) (fun _ _ _ h => h) (Or.inl ⟨by rfl, ?_⟩) (by assumption) ?_
  rotate_left
  · intro w' hSw; (try dsimp only at hSw); first | (go_simp; done) | (go_simp; with_reducible rfl)
  (try simp only [Act.put, List.setIfInBounds_toArray, List.set_cons_zero, List.set_cons_succ])
  refine wpAnyH_take (i := 19) (oi := { dst := some 76, op := Op.pick (Operand.tmp 66) (Operand.const (Value.bool true)) (Operand.tmp 75), type := 4, pos := "laws.go:674", after := #[{ on := 9, ground := Ground.data }, { on := 18, ground := Ground.data }], guard := none }) (v := ?_) rfl (by kernel_rfl) (by kernel_rfl) (by kernel_rfl) (fun _ _ _ h => h) (Or.inl ⟨by rfl, ?_⟩) (by assumption) ?_
  rotate_left
  · intro w' hSw; (try dsimp only at hSw); first | (go_simp; done) | (go_simp; with_reducible rfl)
  (try simp only [Act.put, List.setIfInBounds_toArray, List.set_cons_zero, List.set_cons_succ])
  refine wpAnyH_take (i := 20) (oi := { dst := some 77, op := Op.move (Operand.tmp 76), type := 4, pos := "laws.go:674", after := #[{ on := 19, ground := Ground.data }, { on := 17, ground := Ground.chain }], guard := none }) (v := ?_) rfl (by kernel_rfl) (by kernel_rfl) (by kernel_rfl) (fun _ _ _ h => h) (Or.inl ⟨by rfl, ?_⟩) (by assumption) ?_
  rotate_left
  · intro w' hSw; (try dsimp only at hSw); first | (go_simp; done) | (go_simp; with_reducible rfl)
  (try simp only [Act.put, List.setIfInBounds_toArray, List.set_cons_zero, List.set_cons_succ])
  refine wpAnyH_take (i := 21) (oi := { dst := some 78, op := Op.move (Operand.tmp 17), type := 3, pos := "laws.go:674", after := #[{ on := 20, ground := Ground.guard }], guard := some (20, false) }) (v := ?_) rfl (by kernel_rfl) (by kernel_rfl) (by kernel_rfl) (fun _ _ _ h => h) (Or.inl ⟨by rfl, ?_⟩) (by assumption) ?_
  rotate_left
  · intro w' hSw; (try dsimp only at hSw); first | (go_simp; done) | (go_simp; with_reducible rfl)
  (try simp only [Act.put, List.setIfInBounds_toArray, List.set_cons_zero, List.set_cons_succ])
  refine wpAnyH_take (i := 22) (oi := { dst := some 79, op := Op.move (Operand.tmp 6), type := 32, pos := "laws.go:674", after := #[{ on := 20, ground := Ground.guard }], guard := some (20, false) }) (v := ?_) rfl (by kernel_rfl) (by kernel_rfl) (by kernel_rfl) (fun _ _ _ h => h) (Or.inl ⟨by rfl, ?_⟩) (by assumption) ?_
  rotate_left
  · intro w' hSw; (try dsimp only at hSw); first | (go_simp; done) | (go_simp; with_reducible rfl)
  (try simp only [Act.put, List.setIfInBounds_toArray, List.set_cons_zero, List.set_cons_succ])
  refine wpAnyH_take (i := 23) (oi := { dst := some 80, op := Op.load 29 (Operand.tmp 7), type := 29, pos := "laws.go:674", after := #[{ on := 20, ground := Ground.guard }], guard := some (20, false) }) (v := ?_) rfl (by kernel_rfl) (by kernel_rfl) (by kernel_rfl) (fun _ _ _ h => h) (Or.inl ⟨by rfl, ?_⟩) (by assumption) ?_
  rotate_left
  · intro w' hSw; (try dsimp only at hSw); first | (go_simp; done) | (go_simp; with_reducible rfl)
  (try simp only [Act.put, List.setIfInBounds_toArray, List.set_cons_zero, List.set_cons_succ])
  refine wpAnyH_take (i := 24) (oi := { dst := some 81, op := Op.load 29 (Operand.tmp 8), type := 29, pos := "laws.go:674", after := #[{ on := 20, ground := Ground.guard }], guard := some (20, false) }) (v := ?_) rfl (by kernel_rfl) (by kernel_rfl) (by kernel_rfl) (fun _ _ _ h => h) (Or.inl ⟨by rfl, ?_⟩) (by assumption) ?_
  rotate_left
  · intro w' hSw; (try dsimp only at hSw); first | (go_simp; done) | (go_simp; with_reducible rfl)
  (try simp only [Act.put, List.setIfInBounds_toArray, List.set_cons_zero, List.set_cons_succ])
  refine wpAnyH_ready (rs := [25]) (by kernel_rfl) (by simp) ?_
  refine AllReadyH.cons (o := { dst := some 82, op := Op.call { callee := Callee.value (Operand.func 17), args := #[Operand.tmp 79, Operand.tmp 80, Operand.tmp 81], argTypes := #[32, 29, 29] }, type := 3, pos := "laws.go:674", after := #[{ on := 22, ground := Ground.data }, { on := 23, ground := Ground.data }, { on := 24, ground := Ground.data }, { on := 20, ground := Ground.chain }, { on := 20, ground := Ground.guard }], guard := some (20, false) }) rfl (fun K hK => ?_) AllReadyH.nil
  go_simp
  refine (sFaV k HK.out (H_l.out.on BB.out) (H_m.out.on BB.out) (H_v.out.on BB.out) HRL.out h4 h5).mono ?_
  rintro e wn5 ⟨rfl, hb⟩
  replace BB := Lib.hid (BB.out.trans (hb.mono BB.out.size))
  clear hb
  (try go_wp2_with fail)
  clear hHeld
  refine hK.out _ _ ?_ (fun hHeld => ?_)
  · (try dsimp only); exact ⟨kc K0_r.out BB.out, kc K1_r.out BB.out, kc K0_x.out BB.out, kc K1_x.out BB.out, kc K0_y.out BB.out, kc K1_y.out BB.out, kc K0_t.out BB.out, kc K1_t.out BB.out, kc K0_p.out BB.out, kc K1_p.out BB.out, kc K0_q.out BB.out, kc K1_q.out BB.out, kc K0_n.out BB.out, kc K0_b.out BB.out, kc K0_m.out BB.out, kc K0_v.out BB.out⟩
  clear hK K
  (try simp only [Act.put, List.setIfInBounds_toArray, List.set_cons_zero, List.set_cons_succ])
  refine wpAnyH_take (i := 26) (oi := { dst := some 83, op := Op.binOp BinOp.neq 3 (Operand.tmp 78) (Operand.tmp 82) 3, type := 4, pos := "laws.go:674", after := #[{ on := 21, ground := Ground.data }, { on := 25, ground := Ground.data }, { on := 20, ground := Ground.guard }], guard := some (20, false) }) (v := ?_) rfl (by kernel_rfl) (by kernel_rfl) (by kernel_rfl) (fun _ _ _ h => h) (Or.inl ⟨by rfl, ?_⟩) (by assumption) ?_
  rotate_left
  · intro w' hSw; (try dsimp only at hSw); first | (go_simp; done) | (go_simp; with_reducible rfl)
  (try simp only [Act.put, List.setIfInBounds_toArray, List.set_cons_zero, List.set_cons_succ])
  refine wpAnyH_take (i := 27) (oi := { dst := some 84, op := Op.pick (Operand.tmp 77) (Operand.const (Value.bool true)) (Operand.tmp 83), type := 4, pos := "laws.go:674", after := #[{ on := 20, ground := Ground.data }, { on := 26, ground := Ground.data }], guard := none }) (v := ?_) rfl (by kernel_rfl) (by kernel_rfl) (by kernel_rfl) (fun _ _ _ h => h) (Or.inl ⟨by rfl, ?_⟩) (by assumption) ?_
  rotate_left
  · intro w' hSw; (try dsimp only at hSw); first | (go_simp; done) | (go_simp; with_reducible rfl)
  (try simp only [Act.put, List.setIfInBounds_toArray, List.set_cons_zero, List.set_cons_succ])
  refine wpAnyH_take (i := 28) (oi := { dst := some 85, op := Op.move (Operand.tmp 84), type := 4, pos := "laws.go:674", after := #[{ on := 27, ground := Ground.data }, { on := 25, ground := Ground.chain }], guard := none }) (v := ?_) rfl (by kernel_rfl) (by kernel_rfl) (by kernel_rfl) (fun _ _ _ h => h) (Or.inl ⟨by rfl, ?_⟩) (by assumption) ?_
  rotate_left
  · intro w' hSw; (try dsimp only at hSw); first | (go_simp; done) | (go_simp; with_reducible rfl)
  (try simp only [Act.put, List.setIfInBounds_toArray, List.set_cons_zero, List.set_cons_succ])
  refine wpAnyH_take (i := 29) (oi := { dst := some 86, op := Op.load 28 (Operand.tmp 10), type := 28, pos := "laws.go:674", after := #[{ on := 28, ground := Ground.guard }], guard := some (28, false) }) (v := ?_) rfl (by kernel_rfl) (by kernel_rfl) (by kernel_rfl) (fun _ _ _ h => h) (Or.inl ⟨by rfl, ?_⟩) (by assumption) ?_
  rotate_left
  · intro w' hSw; (try dsimp only at hSw); first | (go_simp; done) | (go_simp; with_reducible rfl)
  (try simp only [Act.put, List.setIfInBounds_toArray, List.set_cons_zero, List.set_cons_succ])
  refine wpAnyH_take (i := 31) (oi := { dst := some 88, op := Op.load 28 (Operand.tmp 10), type := 28, pos := "laws.go:674", after := #[{ on := 28, ground := Ground.guard }], guard := some (28, false) }) (v := ?_) rfl (by kernel_rfl) (by kernel_rfl) (by kernel_rfl) (fun _ _ _ h => h) (Or.inl ⟨by rfl, ?_⟩) (by assumption) ?_
  rotate_left
  · intro w' hSw; (try dsimp only at hSw); first | (go_simp; done) | (go_simp; with_reducible rfl)
  (try simp only [Act.put, List.setIfInBounds_toArray, List.set_cons_zero, List.set_cons_succ])
  refine wpAnyH_ready (rs := [30]) (by kernel_rfl) (by simp) ?_
  refine AllReadyH.cons (o := { dst := some 87, op := Op.call { callee := Callee.value (Operand.func 18), args := #[Operand.tmp 86], argTypes := #[28] }, type := 9, pos := "laws.go:674", after := #[{ on := 29, ground := Ground.data }, { on := 28, ground := Ground.chain }, { on := 28, ground := Ground.guard }], guard := some (28, false) }) rfl (fun K hK => ?_) AllReadyH.nil
  go_simp
  refine (iFrV q3 HQ3.out (H_x.out.on BB.out) h6).mono ?_
  rintro e wn6 ⟨rfl, hb⟩
  replace BB := Lib.hid (BB.out.trans (hb.mono BB.out.size))
  clear hb
  (try go_wp2_with fail)
  clear hHeld
  refine hK.out _ _ ?_ (fun hHeld => ?_)
  · (try dsimp only); exact ⟨kc K0_r.out BB.out, kc K1_r.out BB.out, kc K0_x.out BB.out, kc K1_x.out BB.out, kc K0_y.out BB.out, kc K1_y.out BB.out, kc K0_t.out BB.out, kc K1_t.out BB.out, kc K0_p.out BB.out, kc K1_p.out BB.out, kc K0_q.out BB.out, kc K1_q.out BB.out, kc K0_n.out BB.out, kc K0_b.out BB.out, kc K0_m.out BB.out, kc K0_v.out BB.out⟩
  clear hK K
  (try simp only [Act.put, List.setIfInBounds_toArray, List.set_cons_zero, List.set_cons_succ])
  refine wpAnyH_ready (rs := [32]) (by kernel_rfl) (by simp) ?_
  refine AllReadyH.cons (o := { dst := some 89, op := Op.call { callee := Callee.value (Operand.func 19), args := #[Operand.tmp 88], argTypes := #[28] }, type := 9, pos := "laws.go:674", after := #[{ on := 31, ground := Ground.data }, { on := 30, ground := Ground.chain }, { on := 28, ground := Ground.guard }], guard := some (28, false) }) rfl (fun K hK => ?_) AllReadyH.nil
  go_simp
  refine (sFrV q3 HQ3.out (H_x.out.on BB.out) h6).mono ?_
  rintro e wn7 ⟨rfl, hb⟩
  replace BB := Lib.hid (BB.out.trans (hb.mono BB.out.size))
  clear hb
  (try go_wp2_with fail)
  clear hHeld
  refine hK.out _ _ ?_ (fun hHeld => ?_)
  · (try dsimp only); exact ⟨kc K0_r.out BB.out, kc K1_r.out BB.out, kc K0_x.out BB.out, kc K1_x.out BB.out, kc K0_y.out BB.out, kc K1_y.out BB.out, kc K0_t.out BB.out, kc K1_t.out BB.out, kc K0_p.out BB.out, kc K1_p.out BB.out, kc K0_q.out BB.out, kc K1_q.out BB.out, kc K0_n.out BB.out, kc K0_b.out BB.out, kc K0_m.out BB.out, kc K0_v.out BB.out⟩
  clear hK K
  (try simp only [Act.put, List.setIfInBounds_toArray, List.set_cons_zero, List.set_cons_succ])
  refine wpAnyH_take (i := 33) (oi := { dst := some 90, op := Op.binOp BinOp.neq 9 (Operand.tmp 87) (Operand.tmp 89) 9, type := 4, pos := "laws.go:674", after := #[{ on := 30, ground := Ground.data }, { on := 32, ground := Ground.data }, { on := 28, ground := Ground.guard }], guard := some (28, false) }) (v := ?_) rfl (by kernel_rfl) (by kernel_rfl) (by kernel_rfl) (fun _ _ _ h => h) (Or.inl ⟨by rfl, ?_⟩) (by assumption) ?_
  rotate_left
  · intro w' hSw; (try dsimp only at hSw); first | (go_simp; done) | (go_simp; with_reducible rfl)
  (try simp only [Act.put, List.setIfInBounds_toArray, List.set_cons_zero, List.set_cons_succ])
  refine wpAnyH_take (i := 34) (oi := { dst := some 91, op := Op.pick (Operand.tmp 85) (Operand.const (Value.bool true)) (Operand.tmp 90), type := 4, pos := "laws.go:674", after := #[{ on := 28, ground := Ground.data }, { on := 33, ground := Ground.data }], guard := none }) (v := ?_) rfl (by kernel_rfl) (by kernel_rfl) (by kernel_rfl) (fun _ _ _ h => h) (Or.inl ⟨by rfl, ?_⟩) (by assumption) ?_
  rotate_left
  · intro w' hSw; (try dsimp only at hSw); first | (go_simp; done) | (go_simp; with_reducible rfl)
  (try simp only [Act.put, List.setIfInBounds_toArray, List.set_cons_zero, List.set_cons_succ])
  refine wpAnyH_take (i := 35) (oi := { dst := some 92, op := Op.move (Operand.tmp 91), type := 4, pos := "laws.go:674", after := #[{ on := 34, ground := Ground.data }, { on := 32, ground := Ground.chain }], guard := none }) (v := ?_) rfl (by kernel_rfl) (by kernel_rfl) (by kernel_rfl) (fun _ _ _ h => h) (Or.inl ⟨by rfl, ?_⟩) (by assumption) ?_
  rotate_left
  · intro w' hSw; (try dsimp only at hSw); first | (go_simp; done) | (go_simp; with_reducible rfl)
  (try simp only [Act.put, List.setIfInBounds_toArray, List.set_cons_zero, List.set_cons_succ])
  refine wpAnyH_take (i := 36) (oi := { dst := some 93, op := Op.move (Operand.tmp 11), type := 4, pos := "laws.go:674", after := #[{ on := 35, ground := Ground.guard }], guard := some (35, false) }) (v := ?_) rfl (by kernel_rfl) (by kernel_rfl) (by kernel_rfl) (fun _ _ _ h => h) (Or.inl ⟨by rfl, ?_⟩) (by assumption) ?_
  rotate_left
  · intro w' hSw; (try dsimp only at hSw); first | (go_simp; done) | (go_simp; with_reducible rfl)
  (try simp only [Act.put, List.setIfInBounds_toArray, List.set_cons_zero, List.set_cons_succ])
  refine wpAnyH_take (i := 37) (oi := { dst := some 94, op := Op.move (Operand.tmp 13), type := 4, pos := "laws.go:674", after := #[{ on := 35, ground := Ground.guard }], guard := some (35, false) }) (v := ?_) rfl (by kernel_rfl) (by kernel_rfl) (by kernel_rfl) (fun _ _ _ h => h) (Or.inl ⟨by rfl, ?_⟩) (by assumption) ?_
  rotate_left
  · intro w' hSw; (try dsimp only at hSw); first | (go_simp; done) | (go_simp; with_reducible rfl)
  (try simp only [Act.put, List.setIfInBounds_toArray, List.set_cons_zero, List.set_cons_succ])
  refine wpAnyH_take (i := 38) (oi := { dst := some 95, op := Op.binOp BinOp.neq 4 (Operand.tmp 93) (Operand.tmp 94) 4, type := 4, pos := "laws.go:674", after := #[{ on := 36, ground := Ground.data }, { on := 37, ground := Ground.data }, { on := 35, ground := Ground.guard }], guard := some (35, false) }) (v := ?_) rfl (by kernel_rfl) (by kernel_rfl) (by kernel_rfl) (fun _ _ _ h => h) (Or.inl ⟨by rfl, ?_⟩) (by assumption) ?_
  rotate_left
  · intro w' hSw; (try dsimp only at hSw); first | (go_simp; done) | (go_simp; with_reducible rfl)
  (try simp only [Act.put, List.setIfInBounds_toArray, List.set_cons_zero, List.set_cons_succ])
  refine wpAnyH_take (i := 39) (oi := { dst := some 96, op := Op.pick (Operand.tmp 92) (Operand.const (Value.bool true)) (Operand.tmp 95), type := 4, pos := "laws.go:674", after := #[{ on := 35, ground := Ground.data }, { on := 38, ground := Ground.data }], guard := none }) (v := ?_) rfl (by kernel_rfl) (by kernel_rfl) (by kernel_rfl) (fun _ _ _ h => h) (Or.inl ⟨by rfl, ?_⟩) (by assumption) ?_
  rotate_left
  · intro w' hSw; (try dsimp only at hSw); first | (go_simp; done) | (go_simp; with_reducible rfl)
  (try simp only [Act.put, List.setIfInBounds_toArray, List.set_cons_zero, List.set_cons_succ])
  refine wpAnyH_take (i := 40) (oi := { dst := some 97, op := Op.move (Operand.tmp 96), type := 4, pos := "laws.go:674", after := #[{ on := 39, ground := Ground.data }, { on := 35, ground := Ground.chain }], guard := none }) (v := ?_) rfl (by kernel_rfl) (by kernel_rfl) (by kernel_rfl) (fun _ _ _ h => h) (Or.inl ⟨by rfl, ?_⟩) (by assumption) ?_
  rotate_left
  · intro w' hSw; (try dsimp only at hSw); first | (go_simp; done) | (go_simp; with_reducible rfl)
  (try simp only [Act.put, List.setIfInBounds_toArray, List.set_cons_zero, List.set_cons_succ])
  refine wpAnyH_take (i := 41) (oi := { dst := some 98, op := Op.load 28 (Operand.tmp 12), type := 28, pos := "laws.go:674", after := #[{ on := 40, ground := Ground.guard }], guard := some (40, false) }) (v := ?_) rfl (by kernel_rfl) (by kernel_rfl) (by kernel_rfl) (fun _ _ _ h => h) (Or.inl ⟨by rfl, ?_⟩) (by assumption) ?_
  rotate_left
  · intro w' hSw; (try dsimp only at hSw); first | (go_simp; done) | (go_simp; with_reducible rfl)
  (try simp only [Act.put, List.setIfInBounds_toArray, List.set_cons_zero, List.set_cons_succ])
  refine wpAnyH_take (i := 43) (oi := { dst := some 100, op := Op.load 28 (Operand.tmp 10), type := 28, pos := "laws.go:674", after := #[{ on := 40, ground := Ground.guard }], guard := some (40, false) }) (v := ?_) rfl (by kernel_rfl) (by kernel_rfl) (by kernel_rfl) (fun _ _ _ h => h) (Or.inl ⟨by rfl, ?_⟩) (by assumption) ?_
  rotate_left
  · intro w' hSw; (try dsimp only at hSw); first | (go_simp; done) | (go_simp; with_reducible rfl)
  (try simp only [Act.put, List.setIfInBounds_toArray, List.set_cons_zero, List.set_cons_succ])
  refine wpAnyH_ready (rs := [42]) (by kernel_rfl) (by simp) ?_
  refine AllReadyH.cons (o := { dst := some 99, op := Op.call { callee := Callee.value (Operand.func 18), args := #[Operand.tmp 98], argTypes := #[28] }, type := 9, pos := "laws.go:674", after := #[{ on := 41, ground := Ground.data }, { on := 40, ground := Ground.chain }, { on := 40, ground := Ground.guard }], guard := some (40, false) }) rfl (fun K hK => ?_) AllReadyH.nil
  go_simp
  refine (iFrV q3 HQ3.out (H_y.out.on BB.out) h6).mono ?_
  rintro e wn8 ⟨rfl, hb⟩
  replace BB := Lib.hid (BB.out.trans (hb.mono BB.out.size))
  clear hb
  (try go_wp2_with fail)
  clear hHeld
  refine hK.out _ _ ?_ (fun hHeld => ?_)
  · (try dsimp only); exact ⟨kc K0_r.out BB.out, kc K1_r.out BB.out, kc K0_x.out BB.out, kc K1_x.out BB.out, kc K0_y.out BB.out, kc K1_y.out BB.out, kc K0_t.out BB.out, kc K1_t.out BB.out, kc K0_p.out BB.out, kc K1_p.out BB.out, kc K0_q.out BB.out, kc K1_q.out BB.out, kc K0_n.out BB.out, kc K0_b.out BB.out, kc K0_m.out BB.out, kc K0_v.out BB.out⟩
  clear hK K
  (try simp only [Act.put, List.setIfInBounds_toArray, List.set_cons_zero, List.set_cons_succ])
  refine wpAnyH_ready (rs := [44]) (by kernel_rfl) (by simp) ?_
  refine AllReadyH.cons (o := { dst := some 101, op := Op.call { callee := Callee.value (Operand.func 18), args := #[Operand.tmp 100], argTypes := #[28] }, type := 9, pos := "laws.go:674", after := #[{ on := 43, ground := Ground.data }, { on := 42, ground := Ground.chain }, { on := 40, ground := Ground.guard }], guard := some (40, false) }) rfl (fun K hK => ?_) AllReadyH.nil
  go_simp
  refine (iFrV q3 HQ3.out (H_x.out.on BB.out) h6).mono ?_
  rintro e wn9 ⟨rfl, hb⟩
  replace BB := Lib.hid (BB.out.trans (hb.mono BB.out.size))
  clear hb
  (try go_wp2_with fail)
  clear hHeld
  refine hK.out _ _ ?_ (fun hHeld => ?_)
  · (try dsimp only); exact ⟨kc K0_r.out BB.out, kc K1_r.out BB.out, kc K0_x.out BB.out, kc K1_x.out BB.out, kc K0_y.out BB.out, kc K1_y.out BB.out, kc K0_t.out BB.out, kc K1_t.out BB.out, kc K0_p.out BB.out, kc K1_p.out BB.out, kc K0_q.out BB.out, kc K1_q.out BB.out, kc K0_n.out BB.out, kc K0_b.out BB.out, kc K0_m.out BB.out, kc K0_v.out BB.out⟩
  clear hK K
  (try simp only [Act.put, List.setIfInBounds_toArray, List.set_cons_zero, List.set_cons_succ])
  refine wpAnyH_take (i := 45) (oi := { dst := some 102, op := Op.binOp BinOp.neq 9 (Operand.tmp 99) (Operand.tmp 101) 9, type := 4, pos := "laws.go:674", after := #[{ on := 42, ground := Ground.data }, { on := 44, ground := Ground.data }, { on := 40, ground := Ground.guard }], guard := some (40, false) }) (v := ?_) rfl (by kernel_rfl) (by kernel_rfl) (by kernel_rfl) (fun _ _ _ h => h) (Or.inl ⟨by rfl, ?_⟩) (by assumption) ?_
  rotate_left
  · intro w' hSw; (try dsimp only at hSw); first | (go_simp; done) | (go_simp; with_reducible rfl)
  (try simp only [Act.put, List.setIfInBounds_toArray, List.set_cons_zero, List.set_cons_succ])
  refine wpAnyH_take (i := 46) (oi := { dst := some 103, op := Op.pick (Operand.tmp 97) (Operand.const (Value.bool true)) (Operand.tmp 102), type := 4, pos := "laws.go:674", after := #[{ on := 40, ground := Ground.data }, { on := 45, ground := Ground.data }], guard := none }) (v := ?_) rfl (by kernel_rfl) (by kernel_rfl) (by kernel_rfl) (fun _ _ _ h => h) (Or.inl ⟨by rfl, ?_⟩) (by assumption) ?_
  rotate_left
  · intro w' hSw; (try dsimp only at hSw); first | (go_simp; done) | (go_simp; with_reducible rfl)
  (try simp only [Act.put, List.setIfInBounds_toArray, List.set_cons_zero, List.set_cons_succ])
  refine wpAnyH_take (i := 47) (oi := { dst := some 104, op := Op.move (Operand.tmp 103), type := 4, pos := "laws.go:674", after := #[{ on := 46, ground := Ground.data }, { on := 44, ground := Ground.chain }], guard := none }) (v := ?_) rfl (by kernel_rfl) (by kernel_rfl) (by kernel_rfl) (fun _ _ _ h => h) (Or.inl ⟨by rfl, ?_⟩) (by assumption) ?_
  rotate_left
  · intro w' hSw; (try dsimp only at hSw); first | (go_simp; done) | (go_simp; with_reducible rfl)
  (try simp only [Act.put, List.setIfInBounds_toArray, List.set_cons_zero, List.set_cons_succ])
  refine wpAnyH_take (i := 48) (oi := { dst := some 105, op := Op.load 28 (Operand.tmp 14), type := 28, pos := "laws.go:674", after := #[{ on := 47, ground := Ground.guard }], guard := some (47, false) }) (v := ?_) rfl (by kernel_rfl) (by kernel_rfl) (by kernel_rfl) (fun _ _ _ h => h) (Or.inl ⟨by rfl, ?_⟩) (by assumption) ?_
  rotate_left
  · intro w' hSw; (try dsimp only at hSw); first | (go_simp; done) | (go_simp; with_reducible rfl)
  (try simp only [Act.put, List.setIfInBounds_toArray, List.set_cons_zero, List.set_cons_succ])
  refine wpAnyH_take (i := 50) (oi := { dst := some 107, op := Op.load 28 (Operand.tmp 14), type := 28, pos := "laws.go:674", after := #[{ on := 47, ground := Ground.guard }], guard := some (47, false) }) (v := ?_) rfl (by kernel_rfl) (by kernel_rfl) (by kernel_rfl) (fun _ _ _ h => h) (Or.inl ⟨by rfl, ?_⟩) (by assumption) ?_
  rotate_left
  · intro w' hSw; (try dsimp only at hSw); first | (go_simp; done) | (go_simp; with_reducible rfl)
  (try simp only [Act.put, List.setIfInBounds_toArray, List.set_cons_zero, List.set_cons_succ])
  refine wpAnyH_ready (rs := [49]) (by kernel_rfl) (by simp) ?_
  refine AllReadyH.cons (o := { dst := some 106, op := Op.call { callee := Callee.value (Operand.func 18), args := #[Operand.tmp 105], argTypes := #[28] }, type := 9, pos := "laws.go:674", after := #[{ on := 48, ground := Ground.data }, { on := 47, ground := Ground.chain }, { on := 47, ground := Ground.guard }], guard := some (47, false) }) rfl (fun K hK => ?_) AllReadyH.nil
  go_simp
  refine (iFrV q4 HQ4.out (H_t.out.on BB.out) h7).mono ?_
  rintro e wn10 ⟨rfl, hb⟩
  replace BB := Lib.hid (BB.out.trans (hb.mono BB.out.size))
  clear hb
  (try go_wp2_with fail)
  clear hHeld
  refine hK.out _ _ ?_ (fun hHeld => ?_)
  · (try dsimp only); exact ⟨kc K0_r.out BB.out, kc K1_r.out BB.out, kc K0_x.out BB.out, kc K1_x.out BB.out, kc K0_y.out BB.out, kc K1_y.out BB.out, kc K0_t.out BB.out, kc K1_t.out BB.out, kc K0_p.out BB.out, kc K1_p.out BB.out, kc K0_q.out BB.out, kc K1_q.out BB.out, kc K0_n.out BB.out, kc K0_b.out BB.out, kc K0_m.out BB.out, kc K0_v.out BB.out⟩
  clear hK K
  (try simp only [Act.put, List.setIfInBounds_toArray, List.set_cons_zero, List.set_cons_succ])
  refine wpAnyH_ready (rs := [51]) (by kernel_rfl) (by simp) ?_
  refine AllReadyH.cons (o := { dst := some 108, op := Op.call { callee := Callee.value (Operand.func 19), args := #[Operand.tmp 107], argTypes := #[28] }, type := 9, pos := "laws.go:674", after := #[{ on := 50, ground := Ground.data }, { on := 49, ground := Ground.chain }, { on := 47, ground := Ground.guard }], guard := some (47, false) }) rfl (fun K hK => ?_) AllReadyH.nil
  go_simp
  refine (sFrV q4 HQ4.out (H_t.out.on BB.out) h7).mono ?_
  rintro e wn11 ⟨rfl, hb⟩
  replace BB := Lib.hid (BB.out.trans (hb.mono BB.out.size))
  clear hb
  (try go_wp2_with fail)
  clear hHeld
  refine hK.out _ _ ?_ (fun hHeld => ?_)
  · (try dsimp only); exact ⟨kc K0_r.out BB.out, kc K1_r.out BB.out, kc K0_x.out BB.out, kc K1_x.out BB.out, kc K0_y.out BB.out, kc K1_y.out BB.out, kc K0_t.out BB.out, kc K1_t.out BB.out, kc K0_p.out BB.out, kc K1_p.out BB.out, kc K0_q.out BB.out, kc K1_q.out BB.out, kc K0_n.out BB.out, kc K0_b.out BB.out, kc K0_m.out BB.out, kc K0_v.out BB.out⟩
  clear hK K
  (try simp only [Act.put, List.setIfInBounds_toArray, List.set_cons_zero, List.set_cons_succ])
  refine wpAnyH_take (i := 52) (oi := { dst := some 109, op := Op.binOp BinOp.neq 9 (Operand.tmp 106) (Operand.tmp 108) 9, type := 4, pos := "laws.go:674", after := #[{ on := 49, ground := Ground.data }, { on := 51, ground := Ground.data }, { on := 47, ground := Ground.guard }], guard := some (47, false) }) (v := ?_) rfl (by kernel_rfl) (by kernel_rfl) (by kernel_rfl) (fun _ _ _ h => h) (Or.inl ⟨by rfl, ?_⟩) (by assumption) ?_
  rotate_left
  · intro w' hSw; (try dsimp only at hSw); first | (go_simp; done) | (go_simp; with_reducible rfl)
  (try simp only [Act.put, List.setIfInBounds_toArray, List.set_cons_zero, List.set_cons_succ])
  refine wpAnyH_take (i := 53) (oi := { dst := some 110, op := Op.pick (Operand.tmp 104) (Operand.const (Value.bool true)) (Operand.tmp 109), type := 4, pos := "laws.go:674", after := #[{ on := 47, ground := Ground.data }, { on := 52, ground := Ground.data }], guard := none }) (v := ?_) rfl (by kernel_rfl) (by kernel_rfl) (by kernel_rfl) (fun _ _ _ h => h) (Or.inl ⟨by rfl, ?_⟩) (by assumption) ?_
  rotate_left
  · intro w' hSw; (try dsimp only at hSw); first | (go_simp; done) | (go_simp; with_reducible rfl)
  (try simp only [Act.put, List.setIfInBounds_toArray, List.set_cons_zero, List.set_cons_succ])
  refine wpAnyH_take (i := 54) (oi := { dst := some 111, op := Op.move (Operand.tmp 110), type := 4, pos := "laws.go:674", after := #[{ on := 53, ground := Ground.data }, { on := 51, ground := Ground.chain }], guard := none }) (v := ?_) rfl (by kernel_rfl) (by kernel_rfl) (by kernel_rfl) (fun _ _ _ h => h) (Or.inl ⟨by rfl, ?_⟩) (by assumption) ?_
  rotate_left
  · intro w' hSw; (try dsimp only at hSw); first | (go_simp; done) | (go_simp; with_reducible rfl)
  (try simp only [Act.put, List.setIfInBounds_toArray, List.set_cons_zero, List.set_cons_succ])
  refine wpAnyH_take (i := 55) (oi := { dst := some 112, op := Op.load 28 (Operand.tmp 15), type := 28, pos := "laws.go:674", after := #[{ on := 54, ground := Ground.guard }], guard := some (54, false) }) (v := ?_) rfl (by kernel_rfl) (by kernel_rfl) (by kernel_rfl) (fun _ _ _ h => h) (Or.inl ⟨by rfl, ?_⟩) (by assumption) ?_
  rotate_left
  · intro w' hSw; (try dsimp only at hSw); first | (go_simp; done) | (go_simp; with_reducible rfl)
  (try simp only [Act.put, List.setIfInBounds_toArray, List.set_cons_zero, List.set_cons_succ])
  refine wpAnyH_take (i := 56) (oi := { dst := some 113, op := Op.load 28 (Operand.tmp 16), type := 28, pos := "laws.go:674", after := #[{ on := 54, ground := Ground.guard }], guard := some (54, false) }) (v := ?_) rfl (by kernel_rfl) (by kernel_rfl) (by kernel_rfl) (fun _ _ _ h => h) (Or.inl ⟨by rfl, ?_⟩) (by assumption) ?_
  rotate_left
  · intro w' hSw; (try dsimp only at hSw); first | (go_simp; done) | (go_simp; with_reducible rfl)
  (try simp only [Act.put, List.setIfInBounds_toArray, List.set_cons_zero, List.set_cons_succ])
  refine wpAnyH_take (i := 58) (oi := { dst := some 115, op := Op.load 28 (Operand.tmp 15), type := 28, pos := "laws.go:674", after := #[{ on := 54, ground := Ground.guard }], guard := some (54, false) }) (v := ?_) rfl (by kernel_rfl) (by kernel_rfl) (by kernel_rfl) (fun _ _ _ h => h) (Or.inl ⟨by rfl, ?_⟩) (by assumption) ?_
  rotate_left
  · intro w' hSw; (try dsimp only at hSw); first | (go_simp; done) | (go_simp; with_reducible rfl)
  (try simp only [Act.put, List.setIfInBounds_toArray, List.set_cons_zero, List.set_cons_succ])
  refine wpAnyH_take (i := 59) (oi := { dst := some 116, op := Op.load 28 (Operand.tmp 16), type := 28, pos := "laws.go:674", after := #[{ on := 54, ground := Ground.guard }], guard := some (54, false) }) (v := ?_) rfl (by kernel_rfl) (by kernel_rfl) (by kernel_rfl) (fun _ _ _ h => h) (Or.inl ⟨by rfl, ?_⟩) (by assumption) ?_
  rotate_left
  · intro w' hSw; (try dsimp only at hSw); first | (go_simp; done) | (go_simp; with_reducible rfl)
  (try simp only [Act.put, List.setIfInBounds_toArray, List.set_cons_zero, List.set_cons_succ])
  refine wpAnyH_ready (rs := [57]) (by kernel_rfl) (by simp) ?_
  refine AllReadyH.cons (o := { dst := some 114, op := Op.call { callee := Callee.value (Operand.func 20), args := #[Operand.tmp 112, Operand.tmp 113], argTypes := #[28, 28] }, type := 4, pos := "laws.go:674", after := #[{ on := 55, ground := Ground.data }, { on := 56, ground := Ground.data }, { on := 54, ground := Ground.chain }, { on := 54, ground := Ground.guard }], guard := some (54, false) }) rfl (fun K hK => ?_) AllReadyH.nil
  go_simp
  refine (iErV z5 HZ5.out (H_p.out.on BB.out) (H_q.out.on BB.out) h8 h9).mono ?_
  rintro e wn12 ⟨rfl, hb⟩
  replace BB := Lib.hid (BB.out.trans (hb.mono BB.out.size))
  clear hb
  (try go_wp2_with fail)
  clear hHeld
  refine hK.out _ _ ?_ (fun hHeld => ?_)
  · (try dsimp only); exact ⟨kc K0_r.out BB.out, kc K1_r.out BB.out, kc K0_x.out BB.out, kc K1_x.out BB.out, kc K0_y.out BB.out, kc K1_y.out BB.out, kc K0_t.out BB.out, kc K1_t.out BB.out, kc K0_p.out BB.out, kc K1_p.out BB.out, kc K0_q.out BB.out, kc K1_q.out BB.out, kc K0_n.out BB.out, kc K0_b.out BB.out, kc K0_m.out BB.out, kc K0_v.out BB.out⟩
  clear hK K
  (try simp only [Act.put, List.setIfInBounds_toArray, List.set_cons_zero, List.set_cons_succ])
  refine wpAnyH_ready (rs := [60]) (by kernel_rfl) (by simp) ?_
  refine AllReadyH.cons (o := { dst := some 117, op := Op.call { callee := Callee.value (Operand.func 21), args := #[Operand.tmp 115, Operand.tmp 116], argTypes := #[28, 28] }, type := 4, pos := "laws.go:674", after := #[{ on := 58, ground := Ground.data }, { on := 59, ground := Ground.data }, { on := 57, ground := Ground.chain }, { on := 54, ground := Ground.guard }], guard := some (54, false) }) rfl (fun K hK => ?_) AllReadyH.nil
  go_simp
  refine (sErV z5 HZ5.out (H_p.out.on BB.out) (H_q.out.on BB.out) h8 h9).mono ?_
  rintro e wn13 ⟨rfl, hb⟩
  replace BB := Lib.hid (BB.out.trans (hb.mono BB.out.size))
  clear hb
  (try go_wp2_with fail)
  clear hHeld
  refine hK.out _ _ ?_ (fun hHeld => ?_)
  · (try dsimp only); exact ⟨kc K0_r.out BB.out, kc K1_r.out BB.out, kc K0_x.out BB.out, kc K1_x.out BB.out, kc K0_y.out BB.out, kc K1_y.out BB.out, kc K0_t.out BB.out, kc K1_t.out BB.out, kc K0_p.out BB.out, kc K1_p.out BB.out, kc K0_q.out BB.out, kc K1_q.out BB.out, kc K0_n.out BB.out, kc K0_b.out BB.out, kc K0_m.out BB.out, kc K0_v.out BB.out⟩
  clear hK K
  (try simp only [Act.put, List.setIfInBounds_toArray, List.set_cons_zero, List.set_cons_succ])
  refine wpAnyH_take (i := 61) (oi := { dst := some 118, op := Op.binOp BinOp.neq 4 (Operand.tmp 114) (Operand.tmp 117) 4, type := 4, pos := "laws.go:674", after := #[{ on := 57, ground := Ground.data }, { on := 60, ground := Ground.data }, { on := 54, ground := Ground.guard }], guard := some (54, false) }) (v := ?_) rfl (by kernel_rfl) (by kernel_rfl) (by kernel_rfl) (fun _ _ _ h => h) (Or.inl ⟨by rfl, ?_⟩) (by assumption) ?_
  rotate_left
  · intro w' hSw; (try dsimp only at hSw); first | (go_simp; done) | (go_simp; with_reducible rfl)
  (try simp only [Act.put, List.setIfInBounds_toArray, List.set_cons_zero, List.set_cons_succ])
  refine wpAnyH_take (i := 62) (oi := { dst := some 119, op := Op.pick (Operand.tmp 111) (Operand.const (Value.bool true)) (Operand.tmp 118), type := 4, pos := "laws.go:674", after := #[{ on := 54, ground := Ground.data }, { on := 61, ground := Ground.data }], guard := none }) (v := ?_) rfl (by kernel_rfl) (by kernel_rfl) (by kernel_rfl) (fun _ _ _ h => h) (Or.inl ⟨by rfl, ?_⟩) (by assumption) ?_
  rotate_left
  · intro w' hSw; (try dsimp only at hSw); first | (go_simp; done) | (go_simp; with_reducible rfl)
  (try simp only [Act.put, List.setIfInBounds_toArray, List.set_cons_zero, List.set_cons_succ])
  refine wpAnyH_take (i := 63) (oi := { dst := some 120, op := Op.move (Operand.tmp 119), type := 4, pos := "laws.go:674", after := #[{ on := 62, ground := Ground.data }, { on := 60, ground := Ground.chain }], guard := none }) (v := ?_) rfl (by kernel_rfl) (by kernel_rfl) (by kernel_rfl) (fun _ _ _ h => h) (Or.inl ⟨by rfl, ?_⟩) (by assumption) ?_
  rotate_left
  · intro w' hSw; (try dsimp only at hSw); first | (go_simp; done) | (go_simp; with_reducible rfl)
  (try simp only [Act.put, List.setIfInBounds_toArray, List.set_cons_zero, List.set_cons_succ])
  refine wpAnyH_take (i := 64) (oi := { dst := some 121, op := Op.move (Operand.tmp 6), type := 32, pos := "laws.go:674", after := #[{ on := 63, ground := Ground.guard }], guard := some (63, false) }) (v := ?_) rfl (by kernel_rfl) (by kernel_rfl) (by kernel_rfl) (fun _ _ _ h => h) (Or.inl ⟨by rfl, ?_⟩) (by assumption) ?_
  rotate_left
  · intro w' hSw; (try dsimp only at hSw); first | (go_simp; done) | (go_simp; with_reducible rfl)
  (try simp only [Act.put, List.setIfInBounds_toArray, List.set_cons_zero, List.set_cons_succ])
  refine wpAnyH_take (i := 66) (oi := { dst := some 123, op := Op.move (Operand.tmp 6), type := 32, pos := "laws.go:674", after := #[{ on := 63, ground := Ground.guard }], guard := some (63, false) }) (v := ?_) rfl (by kernel_rfl) (by kernel_rfl) (by kernel_rfl) (fun _ _ _ h => h) (Or.inl ⟨by rfl, ?_⟩) (by assumption) ?_
  rotate_left
  · intro w' hSw; (try dsimp only at hSw); first | (go_simp; done) | (go_simp; with_reducible rfl)
  (try simp only [Act.put, List.setIfInBounds_toArray, List.set_cons_zero, List.set_cons_succ])
  refine wpAnyH_ready (rs := [65]) (by kernel_rfl) (by simp) ?_
  refine AllReadyH.cons (o := { dst := some 122, op := Op.call { callee := Callee.value (Operand.func 22), args := #[Operand.tmp 121], argTypes := #[32] }, type := 4, pos := "laws.go:674", after := #[{ on := 64, ground := Ground.data }, { on := 63, ground := Ground.chain }, { on := 63, ground := Ground.guard }], guard := some (63, false) }) rfl (fun K hK => ?_) AllReadyH.nil
  go_simp
  refine (iVsV10 z6 HZ6.out (H_l.out.on BB.out) HRL.out).mono ?_
  rintro e wn14 ⟨rfl, hb⟩
  replace BB := Lib.hid (BB.out.trans (hb.mono BB.out.size))
  clear hb
  (try go_wp2_with fail)
  clear hHeld
  refine hK.out _ _ ?_ (fun hHeld => ?_)
  · (try dsimp only); exact ⟨kc K0_r.out BB.out, kc K1_r.out BB.out, kc K0_x.out BB.out, kc K1_x.out BB.out, kc K0_y.out BB.out, kc K1_y.out BB.out, kc K0_t.out BB.out, kc K1_t.out BB.out, kc K0_p.out BB.out, kc K1_p.out BB.out, kc K0_q.out BB.out, kc K1_q.out BB.out, kc K0_n.out BB.out, kc K0_b.out BB.out, kc K0_m.out BB.out, kc K0_v.out BB.out⟩
  clear hK K
  (try simp only [Act.put, List.setIfInBounds_toArray, List.set_cons_zero, List.set_cons_succ])
  refine wpAnyH_ready (rs := [67]) (by kernel_rfl) (by simp) ?_
  refine AllReadyH.cons (o := { dst := some 124, op := Op.call { callee := Callee.value (Operand.func 23), args := #[Operand.tmp 123], argTypes := #[32] }, type := 4, pos := "laws.go:674", after := #[{ on := 66, ground := Ground.data }, { on := 65, ground := Ground.chain }, { on := 63, ground := Ground.guard }], guard := some (63, false) }) rfl (fun K hK => ?_) AllReadyH.nil
  go_simp
  refine (sVsV10 z6 HZ6.out (H_l.out.on BB.out) HRL.out).mono ?_
  rintro e wn15 ⟨rfl, hb⟩
  replace BB := Lib.hid (BB.out.trans (hb.mono BB.out.size))
  clear hb
  (try go_wp2_with fail)
  clear hHeld
  refine hK.out _ _ ?_ (fun hHeld => ?_)
  · (try dsimp only); exact ⟨kc K0_r.out BB.out, kc K1_r.out BB.out, kc K0_x.out BB.out, kc K1_x.out BB.out, kc K0_y.out BB.out, kc K1_y.out BB.out, kc K0_t.out BB.out, kc K1_t.out BB.out, kc K0_p.out BB.out, kc K1_p.out BB.out, kc K0_q.out BB.out, kc K1_q.out BB.out, kc K0_n.out BB.out, kc K0_b.out BB.out, kc K0_m.out BB.out, kc K0_v.out BB.out⟩
  clear hK K
  (try simp only [Act.put, List.setIfInBounds_toArray, List.set_cons_zero, List.set_cons_succ])
  refine wpAnyH_take (i := 68) (oi := { dst := some 125, op := Op.binOp BinOp.neq 4 (Operand.tmp 122) (Operand.tmp 124) 4, type := 4, pos := "laws.go:674", after := #[{ on := 65, ground := Ground.data }, { on := 67, ground := Ground.data }, { on := 63, ground := Ground.guard }], guard := some (63, false) }) (v := ?_) rfl (by kernel_rfl) (by kernel_rfl) (by kernel_rfl) (fun _ _ _ h => h) (Or.inl ⟨by rfl, ?_⟩) (by assumption) ?_
  rotate_left
  · intro w' hSw; (try dsimp only at hSw); first | (go_simp; done) | (go_simp; with_reducible rfl)
  (try simp only [Act.put, List.setIfInBounds_toArray, List.set_cons_zero, List.set_cons_succ])
  refine wpAnyH_take (i := 69) (oi := { dst := some 126, op := Op.pick (Operand.tmp 120) (Operand.const (Value.bool true)) (Operand.tmp 125), type := 4, pos := "laws.go:674", after := #[{ on := 63, ground := Ground.data }, { on := 68, ground := Ground.data }], guard := none }) (v := ?_) rfl (by kernel_rfl) (by kernel_rfl) (by kernel_rfl) (fun _ _ _ h => h) (Or.inl ⟨by rfl, ?_⟩) (by assumption) ?_
  rotate_left
  · intro w' hSw; (try dsimp only at hSw); first | (go_simp; done) | (go_simp; with_reducible rfl)
  (try simp only [Act.put, List.setIfInBounds_toArray, List.set_cons_zero, List.set_cons_succ])
  refine wpAnyH_take (i := 70) (oi := { dst := some 127, op := Op.move (Operand.tmp 126), type := 4, pos := "laws.go:674", after := #[{ on := 69, ground := Ground.data }, { on := 67, ground := Ground.chain }], guard := none }) (v := ?_) rfl (by kernel_rfl) (by kernel_rfl) (by kernel_rfl) (fun _ _ _ h => h) (Or.inl ⟨by rfl, ?_⟩) (by assumption) ?_
  rotate_left
  · intro w' hSw; (try dsimp only at hSw); first | (go_simp; done) | (go_simp; with_reducible rfl)
  (try simp only [Act.put, List.setIfInBounds_toArray, List.set_cons_zero, List.set_cons_succ])
  refine wpAnyH_take (i := 71) (oi := { dst := some 128, op := Op.load 28 (Operand.tmp 14), type := 28, pos := "laws.go:674", after := #[{ on := 70, ground := Ground.guard }], guard := some (70, false) }) (v := ?_) rfl (by kernel_rfl) (by kernel_rfl) (by kernel_rfl) (fun _ _ _ h => h) (Or.inl ⟨by rfl, ?_⟩) (by assumption) ?_
  rotate_left
  · intro w' hSw; (try dsimp only at hSw); first | (go_simp; done) | (go_simp; with_reducible rfl)
  (try simp only [Act.put, List.setIfInBounds_toArray, List.set_cons_zero, List.set_cons_succ])
  refine wpAnyH_take (i := 73) (oi := { dst := some 130, op := Op.load 28 (Operand.tmp 14), type := 28, pos := "laws.go:674", after := #[{ on := 70, ground := Ground.guard }], guard := some (70, false) }) (v := ?_) rfl (by kernel_rfl) (by kernel_rfl) (by kernel_rfl) (fun _ _ _ h => h) (Or.inl ⟨by rfl, ?_⟩) (by assumption) ?_
  rotate_left
  · intro w' hSw; (try dsimp only at hSw); first | (go_simp; done) | (go_simp; with_reducible rfl)
  (try simp only [Act.put, List.setIfInBounds_toArray, List.set_cons_zero, List.set_cons_succ])
  refine wpAnyH_ready (rs := [72]) (by kernel_rfl) (by simp) ?_
  refine AllReadyH.cons (o := { dst := some 129, op := Op.call { callee := Callee.value (Operand.func 24), args := #[Operand.tmp 128], argTypes := #[28] }, type := 4, pos := "laws.go:674", after := #[{ on := 71, ground := Ground.data }, { on := 70, ground := Ground.chain }, { on := 70, ground := Ground.guard }], guard := some (70, false) }) rfl (fun K hK => ?_) AllReadyH.nil
  go_simp
  refine (iVrV z7 HZ7.out (H_t.out.on BB.out) h7).mono ?_
  rintro e wn16 ⟨rfl, hb⟩
  replace BB := Lib.hid (BB.out.trans (hb.mono BB.out.size))
  clear hb
  (try go_wp2_with fail)
  clear hHeld
  refine hK.out _ _ ?_ (fun hHeld => ?_)
  · (try dsimp only); exact ⟨kc K0_r.out BB.out, kc K1_r.out BB.out, kc K0_x.out BB.out, kc K1_x.out BB.out, kc K0_y.out BB.out, kc K1_y.out BB.out, kc K0_t.out BB.out, kc K1_t.out BB.out, kc K0_p.out BB.out, kc K1_p.out BB.out, kc K0_q.out BB.out, kc K1_q.out BB.out, kc K0_n.out BB.out, kc K0_b.out BB.out, kc K0_m.out BB.out, kc K0_v.out BB.out⟩
  clear hK K
  (try simp only [Act.put, List.setIfInBounds_toArray, List.set_cons_zero, List.set_cons_succ])
  refine wpAnyH_ready (rs := [74]) (by kernel_rfl) (by simp) ?_
  refine AllReadyH.cons (o := { dst := some 131, op := Op.call { callee := Callee.value (Operand.func 25), args := #[Operand.tmp 130], argTypes := #[28] }, type := 4, pos := "laws.go:674", after := #[{ on := 73, ground := Ground.data }, { on := 72, ground := Ground.chain }, { on := 70, ground := Ground.guard }], guard := some (70, false) }) rfl (fun K hK => ?_) AllReadyH.nil
  go_simp
  refine (sVrV z7 HZ7.out (H_t.out.on BB.out) h7).mono ?_
  rintro e wn17 ⟨rfl, hb⟩
  replace BB := Lib.hid (BB.out.trans (hb.mono BB.out.size))
  clear hb
  (try go_wp2_with fail)
  clear hHeld
  refine hK.out _ _ ?_ (fun hHeld => ?_)
  · (try dsimp only); exact ⟨kc K0_r.out BB.out, kc K1_r.out BB.out, kc K0_x.out BB.out, kc K1_x.out BB.out, kc K0_y.out BB.out, kc K1_y.out BB.out, kc K0_t.out BB.out, kc K1_t.out BB.out, kc K0_p.out BB.out, kc K1_p.out BB.out, kc K0_q.out BB.out, kc K1_q.out BB.out, kc K0_n.out BB.out, kc K0_b.out BB.out, kc K0_m.out BB.out, kc K0_v.out BB.out⟩
  clear hK K
  (try simp only [Act.put, List.setIfInBounds_toArray, List.set_cons_zero, List.set_cons_succ])
  refine wpAnyH_take (i := 75) (oi := { dst := some 132, op := Op.binOp BinOp.neq 4 (Operand.tmp 129) (Operand.tmp 131) 4, type := 4, pos := "laws.go:674", after := #[{ on := 72, ground := Ground.data }, { on := 74, ground := Ground.data }, { on := 70, ground := Ground.guard }], guard := some (70, false) }) (v := ?_) rfl (by kernel_rfl) (by kernel_rfl) (by kernel_rfl) (fun _ _ _ h => h) (Or.inl ⟨by rfl, ?_⟩) (by assumption) ?_
  rotate_left
  · intro w' hSw; (try dsimp only at hSw); first | (go_simp; done) | (go_simp; with_reducible rfl)
  (try simp only [Act.put, List.setIfInBounds_toArray, List.set_cons_zero, List.set_cons_succ])
  refine wpAnyH_take (i := 76) (oi := { dst := some 133, op := Op.pick (Operand.tmp 127) (Operand.const (Value.bool true)) (Operand.tmp 132), type := 4, pos := "laws.go:674", after := #[{ on := 70, ground := Ground.data }, { on := 75, ground := Ground.data }], guard := none }) (v := ?_) rfl (by kernel_rfl) (by kernel_rfl) (by kernel_rfl) (fun _ _ _ h => h) (Or.inl ⟨by rfl, ?_⟩) (by assumption) ?_
  rotate_left
  · intro w' hSw; (try dsimp only at hSw); first | (go_simp; done) | (go_simp; with_reducible rfl)
  (try simp only [Act.put, List.setIfInBounds_toArray, List.set_cons_zero, List.set_cons_succ])
  refine wpAnyH_done (by kernel_rfl) ?_ _
  exact NoPanic.normal (HQ.out _ _ _ _ _ _ _ _ _ _ _ _ _ _ _ _ _ _ _ _ _ _ _ _ _ _ _ _ _ _ _ _ _ _ _ _ _ _ _ _ _ _ _ _ _ _ _ _ _ _ _ _ _ _ _ _ _ _ _ _ _ _ _ _ _ _ _ _ _ _ _ _ _ _ _ _  _  BB.out)

end Go.Proofs.YtkojeajjappchaaGreat.Row
