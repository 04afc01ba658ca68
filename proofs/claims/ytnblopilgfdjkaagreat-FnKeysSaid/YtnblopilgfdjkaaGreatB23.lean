/- Contracts and mathematics, joined: RegK11. No conditions but those that each states. -/
import Derived.WalkKit
import Derived.Deep.RegionHeld3
import Derived.Test.YtnblopilgfdjkaaGreatB22
/- The great region of FnKeys: whatever order is drawn, its last value is false. No conditions. -/
namespace Go.Proofs.YtnblopilgfdjkaaGreat.Row.Ring
open Go.ChangeShapes Go.WideShapes Go.ChangeAt Go.RowKit Go.Instr
set_option linter.unusedVariables false
set_option maxRecDepth 100000

set_option maxRecDepth 100000 in
set_option maxHeartbeats 4000000 in
theorem regK11 {Q : Exit → Act → World → Prop} {v0 v1 v2 v3 v4 v5 v6 v7 v14 v15 v22 v23 v24 v25 v26 v27 v28 v29 v30 v31 v32 v33 v34 v35 v36 v37 v38 v39 v40 v41 v42 v43 v44 v45 v46 v47 v48 v49 v50 v51 v52 v53 v54 v55 v56 v57 v58 v59 v60 v61 v62 v63 v64 v65 v66 v67 v68 v69 v70 v71 v72 v73 v74 v75 v76 v77 v78 v79 v80 v81 v82 v83 v84 v85 v86 v87 v88 v89 v90 v91 v92 v93 v94 v95 v96 v97 v98 v99 v100 v101 v102 v103 v104 v105 v106 v107 v108 v109 v110 v111 v112 v113 v114 v115 v116 v117 v118 v119 v120 v121 v122 v123 v124 v125 v126 v127 v128 v129 v130 v131 v132 v133 v134 v135 v136 v137 v138 v139 v140 v141 v142 v143 v144 v145 v146 v147 v148 v149 v150 v151 v152 v153 v154 v155 v156 v157 v158 v159 v160 v161 v162 v163 v164 v165 v166 v167 v168 v169 v170 v171 v172 v173 v174 v175 v176 v177 v178 v179 v180 v181 v182 v183 : Value} {w : World} {bx by_ bq bm : Nat} {ok may q1 q3 : Bool} {q2 : Int} {q4 : ByteArray} {mt : List Int} {xx xq : Dt} {tp tc ts : Kt} {ms : List ByteArray} {x_xa : Option Addr} {n_xa c_xa : Nat} {x_xb : Option Addr} {n_xb c_xb : Nat} {x_xc : Option Addr} {n_xc c_xc : Nat} {x_ya : Option Addr} {n_ya c_ya : Nat} {x_yb : Option Addr} {n_yb c_yb : Nat} {x_yc : Option Addr} {n_yc c_yc : Nat} {x_qa : Option Addr} {n_qa c_qa : Nat} {x_qb : Option Addr} {n_qb c_qb : Nat} {x_qc : Option Addr} {n_qc c_qc : Nat} {x_p : Option Addr} {n_p c_p : Nat} {x_c : Option Addr} {n_c c_c : Nat} {x_d : Option Addr} {n_d c_d : Nat} {x_s : Option Addr} {n_s c_s : Nat} {x_m : Option Addr} {n_m c_m : Nat} (H_x : Hid (kD.At w (.agg #[.slice x_xa n_xa c_xa, .slice x_xb n_xb c_xb, .slice x_xc n_xc c_xc, .int .i64 xx.2.2.2.1, .int .i64 xx.2.2.2.2]) xx)) (H_y : Hid (kD.At w (.agg #[.slice x_ya n_ya c_ya, .slice x_yb n_yb c_yb, .slice x_yc n_yc c_yc, .int .i64 xx.2.2.2.1, .int .i64 xx.2.2.2.2]) xx)) (H_q : Hid (kD.At w (.agg #[.slice x_qa n_qa c_qa, .slice x_qb n_qb c_qb, .slice x_qc n_qc c_qc, .int .i64 xq.2.2.2.1, .int .i64 xq.2.2.2.2]) xq)) (H_p : Hid (kK.At w (.slice x_p n_p c_p) tp)) (H_c : Hid (kK.At w (.slice x_c n_c c_c) tc)) (H_d : Hid (kK.At w (.slice x_d n_d c_d) tc)) (H_s : Hid (kK.At w (.slice x_s n_s c_s) ts)) (H_m : Hid (kN.At w (.agg #[.slice x_m n_m c_m]) ms)) (HYX : Hid (Sl.Byt xx.2.1)) (HWq : Hid (WfD xq)) (HKp : Hid (KL tp)) (HKc : Hid (KL tc)) (HKs : Hid (KL ts)) (HQ1 : Hid (verD (lkN tp xq.2.2.1) xq = q1)) (HMT : Hid (matK tp xq = mt)) (HQ2 : Hid (lkN ts ms = q2)) (HQ3 : Hid (validK tp = q3)) (HQ4 : Hid (fmtK tp = q4)) (h1 : bulkD xx ≤ 3000) (h2 : bulkD xq ≤ 3000) (h3 : bulk ms ≤ 1000) (K0_x : Hid (w.cell? ⟨bx, 0, none⟩ = some (.slice x_xa n_xa c_xa))) (K1_x : Hid (w.cell? ⟨bx, 1, none⟩ = some (.slice x_xb n_xb c_xb))) (K2_x : Hid (w.cell? ⟨bx, 2, none⟩ = some (.slice x_xc n_xc c_xc))) (K3_x : Hid (w.cell? ⟨bx, 3, none⟩ = some (.int .i64 xx.2.2.2.1))) (K4_x : Hid (w.cell? ⟨bx, 4, none⟩ = some (.int .i64 xx.2.2.2.2))) (K0_y : Hid (w.cell? ⟨by_, 0, none⟩ = some (.slice x_ya n_ya c_ya))) (K1_y : Hid (w.cell? ⟨by_, 1, none⟩ = some (.slice x_yb n_yb c_yb))) (K2_y : Hid (w.cell? ⟨by_, 2, none⟩ = some (.slice x_yc n_yc c_yc))) (K3_y : Hid (w.cell? ⟨by_, 3, none⟩ = some (.int .i64 xx.2.2.2.1))) (K4_y : Hid (w.cell? ⟨by_, 4, none⟩ = some (.int .i64 xx.2.2.2.2))) (K0_q : Hid (w.cell? ⟨bq, 0, none⟩ = some (.slice x_qa n_qa c_qa))) (K1_q : Hid (w.cell? ⟨bq, 1, none⟩ = some (.slice x_qb n_qb c_qb))) (K2_q : Hid (w.cell? ⟨bq, 2, none⟩ = some (.slice x_qc n_qc c_qc))) (K3_q : Hid (w.cell? ⟨bq, 3, none⟩ = some (.int .i64 xq.2.2.2.1))) (K4_q : Hid (w.cell? ⟨bq, 4, none⟩ = some (.int .i64 xq.2.2.2.2))) (K0_m : Hid (w.cell? ⟨bm, 0, none⟩ = some (.slice x_m n_m c_m)))
    (hQ : ∀ (u77 u78 u79 u80 u81 u82 u83 u84 u85 u86 u87 u88 u89 u90 u91 u92 u93 u94 u95 u96 u97 u98 u99 u100 u101 u102 u103 u104 u105 u106 u107 u108 u109 u110 u111 u112 u113 u114 u115 u116 u117 u118 u119 u120 u121 u122 u123 u124 u125 u126 u127 u128 u129 u130 u131 u132 u133 u134 u135 u136 u137 : Value)  (wx : World), Below w.heap.size w wx → Q .normal ⟨#[v0, v1, v2, v3, v4, v5, v6, v7, .pointer (some ⟨bx, 0, none⟩), .bool ok, .pointer (some ⟨by_, 0, none⟩), .bool ok, .slice x_p n_p c_p, .pointer (some ⟨bq, 0, none⟩), v14, v15, .slice x_c n_c c_c, .bool may, .slice x_d n_d c_d, .bool may, .slice x_s n_s c_s, .pointer (some ⟨bm, 0, none⟩), v22, v23, v24, v25, v26, v27, v28, v29, v30, v31, v32, v33, v34, v35, v36, v37, v38, v39, v40, v41, v42, v43, v44, v45, v46, v47, v48, v49, v50, v51, v52, v53, v54, v55, v56, v57, v58, v59, v60, v61, v62, v63, v64, v65, v66, v67, v68, v69, v70, v71, v72, v73, v74, v75, v76, u77, u78, u79, u80, u81, u82, u83, u84, u85, u86, u87, u88, u89, u90, u91, u92, u93, u94, u95, u96, u97, u98, u99, u100, u101, u102, u103, u104, u105, u106, u107, u108, u109, u110, u111, u112, u113, u114, u115, u116, u117, u118, u119, u120, u121, u122, u123, u124, u125, u126, u127, u128, u129, u130, u131, u132, u133, u134, u135, u136, u137, .bool false, v139, v140, v141, v142, v143, v144, v145, v146, v147, v148, v149, v150, v151, v152, v153, v154, v155, v156, v157, v158, v159, v160, v161, v162, v163, v164, v165, v166, v167, v168, v169, v170, v171, v172, v173, v174, v175, v176, v177, v178, v179, v180, v181, v182, v183], []⟩ wx) :
    (Code.region 11 #[{ dst := some 77, op := Op.load 31 (Operand.tmp 8), type := 31, pos := "laws.go:649", after := #[], guard := none },
      { dst := some 78, op := Op.load 31 (Operand.tmp 10), type := 31, pos := "laws.go:649", after := #[], guard := none },
      { dst := some 79, op := Op.call { callee := Callee.value (Operand.func 13), args := #[Operand.tmp 77, Operand.tmp 78], argTypes := #[31, 31] }, type := 4, pos := "laws.go:649", after := #[{ on := 0, ground := Ground.data }, { on := 1, ground := Ground.data }], guard := none },
      { dst := some 80, op := Op.unOp UnOp.not 4 (Operand.tmp 79), type := 4, pos := "laws.go:649", after := #[{ on := 2, ground := Ground.data }], guard := none },
      { dst := some 81, op := Op.move (Operand.tmp 80), type := 4, pos := "laws.go:649", after := #[{ on := 3, ground := Ground.data }, { on := 2, ground := Ground.chain }], guard := none },
      { dst := some 82, op := Op.move (Operand.tmp 9), type := 4, pos := "laws.go:649", after := #[{ on := 4, ground := Ground.guard }], guard := some (4, false) },
      { dst := some 83, op := Op.move (Operand.tmp 11), type := 4, pos := "laws.go:649", after := #[{ on := 4, ground := Ground.guard }], guard := some (4, false) },
      { dst := some 84, op := Op.binOp BinOp.neq 4 (Operand.tmp 82) (Operand.tmp 83) 4, type := 4, pos := "laws.go:649", after := #[{ on := 5, ground := Ground.data }, { on := 6, ground := Ground.data }, { on := 4, ground := Ground.guard }], guard := some (4, false) },
      { dst := some 85, op := Op.pick (Operand.tmp 81) (Operand.const (Value.bool true)) (Operand.tmp 84), type := 4, pos := "laws.go:649", after := #[{ on := 4, ground := Ground.data }, { on := 7, ground := Ground.data }], guard := none },
      { dst := some 86, op := Op.move (Operand.tmp 85), type := 4, pos := "laws.go:649", after := #[{ on := 8, ground := Ground.data }, { on := 4, ground := Ground.chain }], guard := none },
      { dst := some 87, op := Op.move (Operand.tmp 12), type := 24, pos := "laws.go:649", after := #[{ on := 9, ground := Ground.guard }], guard := some (9, false) },
      { dst := some 88, op := Op.load 31 (Operand.tmp 13), type := 31, pos := "laws.go:649", after := #[{ on := 9, ground := Ground.guard }], guard := some (9, false) },
      { dst := some 89, op := Op.call { callee := Callee.value (Operand.func 14), args := #[Operand.tmp 87, Operand.tmp 88], argTypes := #[24, 31] }, type := 4, pos := "laws.go:649", after := #[{ on := 10, ground := Ground.data }, { on := 11, ground := Ground.data }, { on := 9, ground := Ground.chain }, { on := 9, ground := Ground.guard }], guard := some (9, false) },
      { dst := some 90, op := Op.move (Operand.tmp 12), type := 24, pos := "laws.go:649", after := #[{ on := 9, ground := Ground.guard }], guard := some (9, false) },
      { dst := some 91, op := Op.load 31 (Operand.tmp 13), type := 31, pos := "laws.go:649", after := #[{ on := 9, ground := Ground.guard }], guard := some (9, false) },
      { dst := some 92, op := Op.call { callee := Callee.value (Operand.func 15), args := #[Operand.tmp 90, Operand.tmp 91], argTypes := #[24, 31] }, type := 4, pos := "laws.go:649", after := #[{ on := 13, ground := Ground.data }, { on := 14, ground := Ground.data }, { on := 12, ground := Ground.chain }, { on := 9, ground := Ground.guard }], guard := some (9, false) },
      { dst := some 93, op := Op.binOp BinOp.neq 4 (Operand.tmp 89) (Operand.tmp 92) 4, type := 4, pos := "laws.go:649", after := #[{ on := 12, ground := Ground.data }, { on := 15, ground := Ground.data }, { on := 9, ground := Ground.guard }], guard := some (9, false) },
      { dst := some 94, op := Op.pick (Operand.tmp 86) (Operand.const (Value.bool true)) (Operand.tmp 93), type := 4, pos := "laws.go:649", after := #[{ on := 9, ground := Ground.data }, { on := 16, ground := Ground.data }], guard := none },
      { dst := some 95, op := Op.move (Operand.tmp 94), type := 4, pos := "laws.go:649", after := #[{ on := 17, ground := Ground.data }, { on := 15, ground := Ground.chain }], guard := none },
      { dst := some 96, op := Op.move (Operand.tmp 12), type := 24, pos := "laws.go:649", after := #[{ on := 18, ground := Ground.guard }], guard := some (18, false) },
      { dst := some 97, op := Op.load 31 (Operand.tmp 13), type := 31, pos := "laws.go:649", after := #[{ on := 18, ground := Ground.guard }], guard := some (18, false) },
      { dst := some 98, op := Op.call { callee := Callee.value (Operand.func 17), args := #[Operand.tmp 96, Operand.tmp 97], argTypes := #[24, 31] }, type := 47, pos := "laws.go:649", after := #[{ on := 19, ground := Ground.data }, { on := 20, ground := Ground.data }, { on := 18, ground := Ground.chain }, { on := 18, ground := Ground.guard }], guard := some (18, false) },
      { dst := some 99, op := Op.move (Operand.tmp 12), type := 24, pos := "laws.go:649", after := #[{ on := 18, ground := Ground.guard }], guard := some (18, false) },
      { dst := some 100, op := Op.load 31 (Operand.tmp 13), type := 31, pos := "laws.go:649", after := #[{ on := 18, ground := Ground.guard }], guard := some (18, false) },
      { dst := some 101, op := Op.call { callee := Callee.value (Operand.func 18), args := #[Operand.tmp 99, Operand.tmp 100], argTypes := #[24, 31] }, type := 47, pos := "laws.go:649", after := #[{ on := 22, ground := Ground.data }, { on := 23, ground := Ground.data }, { on := 21, ground := Ground.chain }, { on := 18, ground := Ground.guard }], guard := some (18, false) },
      { dst := some 102, op := Op.call { callee := Callee.value (Operand.func 16), args := #[Operand.tmp 98, Operand.tmp 101], argTypes := #[47, 47] }, type := 4, pos := "laws.go:649", after := #[{ on := 21, ground := Ground.data }, { on := 24, ground := Ground.data }, { on := 24, ground := Ground.chain }, { on := 18, ground := Ground.guard }], guard := some (18, false) },
      { dst := some 103, op := Op.unOp UnOp.not 4 (Operand.tmp 102), type := 4, pos := "laws.go:649", after := #[{ on := 25, ground := Ground.data }, { on := 18, ground := Ground.guard }], guard := some (18, false) },
      { dst := some 104, op := Op.pick (Operand.tmp 95) (Operand.const (Value.bool true)) (Operand.tmp 103), type := 4, pos := "laws.go:649", after := #[{ on := 18, ground := Ground.data }, { on := 26, ground := Ground.data }], guard := none },
      { dst := some 105, op := Op.move (Operand.tmp 104), type := 4, pos := "laws.go:649", after := #[{ on := 27, ground := Ground.data }, { on := 25, ground := Ground.chain }], guard := none },
      { dst := some 106, op := Op.move (Operand.tmp 16), type := 24, pos := "laws.go:649", after := #[{ on := 28, ground := Ground.guard }], guard := some (28, false) },
      { dst := some 107, op := Op.move (Operand.tmp 18), type := 24, pos := "laws.go:649", after := #[{ on := 28, ground := Ground.guard }], guard := some (28, false) },
      { dst := some 108, op := Op.call { callee := Callee.value (Operand.func 19), args := #[Operand.tmp 106, Operand.tmp 107], argTypes := #[24, 24] }, type := 4, pos := "laws.go:649", after := #[{ on := 29, ground := Ground.data }, { on := 30, ground := Ground.data }, { on := 28, ground := Ground.chain }, { on := 28, ground := Ground.guard }], guard := some (28, false) },
      { dst := some 109, op := Op.unOp UnOp.not 4 (Operand.tmp 108), type := 4, pos := "laws.go:649", after := #[{ on := 31, ground := Ground.data }, { on := 28, ground := Ground.guard }], guard := some (28, false) },
      { dst := some 110, op := Op.pick (Operand.tmp 105) (Operand.const (Value.bool true)) (Operand.tmp 109), type := 4, pos := "laws.go:649", after := #[{ on := 28, ground := Ground.data }, { on := 32, ground := Ground.data }], guard := none },
      { dst := some 111, op := Op.move (Operand.tmp 110), type := 4, pos := "laws.go:649", after := #[{ on := 33, ground := Ground.data }, { on := 31, ground := Ground.chain }], guard := none },
      { dst := some 112, op := Op.move (Operand.tmp 17), type := 4, pos := "laws.go:649", after := #[{ on := 34, ground := Ground.guard }], guard := some (34, false) },
      { dst := some 113, op := Op.move (Operand.tmp 19), type := 4, pos := "laws.go:649", after := #[{ on := 34, ground := Ground.guard }], guard := some (34, false) },
      { dst := some 114, op := Op.binOp BinOp.neq 4 (Operand.tmp 112) (Operand.tmp 113) 4, type := 4, pos := "laws.go:649", after := #[{ on := 35, ground := Ground.data }, { on := 36, ground := Ground.data }, { on := 34, ground := Ground.guard }], guard := some (34, false) },
      { dst := some 115, op := Op.pick (Operand.tmp 111) (Operand.const (Value.bool true)) (Operand.tmp 114), type := 4, pos := "laws.go:649", after := #[{ on := 34, ground := Ground.data }, { on := 37, ground := Ground.data }], guard := none },
      { dst := some 116, op := Op.move (Operand.tmp 115), type := 4, pos := "laws.go:649", after := #[{ on := 38, ground := Ground.data }, { on := 34, ground := Ground.chain }], guard := none },
      { dst := some 117, op := Op.move (Operand.tmp 20), type := 24, pos := "laws.go:649", after := #[{ on := 39, ground := Ground.guard }], guard := some (39, false) },
      { dst := some 118, op := Op.load 27 (Operand.tmp 21), type := 27, pos := "laws.go:649", after := #[{ on := 39, ground := Ground.guard }], guard := some (39, false) },
      { dst := some 119, op := Op.call { callee := Callee.value (Operand.func 20), args := #[Operand.tmp 117, Operand.tmp 118], argTypes := #[24, 27] }, type := 3, pos := "laws.go:649", after := #[{ on := 40, ground := Ground.data }, { on := 41, ground := Ground.data }, { on := 39, ground := Ground.chain }, { on := 39, ground := Ground.guard }], guard := some (39, false) },
      { dst := some 120, op := Op.move (Operand.tmp 20), type := 24, pos := "laws.go:649", after := #[{ on := 39, ground := Ground.guard }], guard := some (39, false) },
      { dst := some 121, op := Op.load 27 (Operand.tmp 21), type := 27, pos := "laws.go:649", after := #[{ on := 39, ground := Ground.guard }], guard := some (39, false) },
      { dst := some 122, op := Op.call { callee := Callee.value (Operand.func 21), args := #[Operand.tmp 120, Operand.tmp 121], argTypes := #[24, 27] }, type := 3, pos := "laws.go:649", after := #[{ on := 43, ground := Ground.data }, { on := 44, ground := Ground.data }, { on := 42, ground := Ground.chain }, { on := 39, ground := Ground.guard }], guard := some (39, false) },
      { dst := some 123, op := Op.binOp BinOp.neq 3 (Operand.tmp 119) (Operand.tmp 122) 3, type := 4, pos := "laws.go:649", after := #[{ on := 42, ground := Ground.data }, { on := 45, ground := Ground.data }, { on := 39, ground := Ground.guard }], guard := some (39, false) },
      { dst := some 124, op := Op.pick (Operand.tmp 116) (Operand.const (Value.bool true)) (Operand.tmp 123), type := 4, pos := "laws.go:649", after := #[{ on := 39, ground := Ground.data }, { on := 46, ground := Ground.data }], guard := none },
      { dst := some 125, op := Op.move (Operand.tmp 124), type := 4, pos := "laws.go:649", after := #[{ on := 47, ground := Ground.data }, { on := 45, ground := Ground.chain }], guard := none },
      { dst := some 126, op := Op.move (Operand.tmp 12), type := 24, pos := "laws.go:649", after := #[{ on := 48, ground := Ground.guard }], guard := some (48, false) },
      { dst := some 127, op := Op.call { callee := Callee.value (Operand.func 22), args := #[Operand.tmp 126], argTypes := #[24] }, type := 4, pos := "laws.go:649", after := #[{ on := 49, ground := Ground.data }, { on := 48, ground := Ground.chain }, { on := 48, ground := Ground.guard }], guard := some (48, false) },
      { dst := some 128, op := Op.move (Operand.tmp 12), type := 24, pos := "laws.go:649", after := #[{ on := 48, ground := Ground.guard }], guard := some (48, false) },
      { dst := some 129, op := Op.call { callee := Callee.value (Operand.func 23), args := #[Operand.tmp 128], argTypes := #[24] }, type := 4, pos := "laws.go:649", after := #[{ on := 51, ground := Ground.data }, { on := 50, ground := Ground.chain }, { on := 48, ground := Ground.guard }], guard := some (48, false) },
      { dst := some 130, op := Op.binOp BinOp.neq 4 (Operand.tmp 127) (Operand.tmp 129) 4, type := 4, pos := "laws.go:649", after := #[{ on := 50, ground := Ground.data }, { on := 52, ground := Ground.data }, { on := 48, ground := Ground.guard }], guard := some (48, false) },
      { dst := some 131, op := Op.pick (Operand.tmp 125) (Operand.const (Value.bool true)) (Operand.tmp 130), type := 4, pos := "laws.go:649", after := #[{ on := 48, ground := Ground.data }, { on := 53, ground := Ground.data }], guard := none },
      { dst := some 132, op := Op.move (Operand.tmp 131), type := 4, pos := "laws.go:649", after := #[{ on := 54, ground := Ground.data }, { on := 52, ground := Ground.chain }], guard := none },
      { dst := some 133, op := Op.move (Operand.tmp 12), type := 24, pos := "laws.go:649", after := #[{ on := 55, ground := Ground.guard }], guard := some (55, false) },
      { dst := some 134, op := Op.call { callee := Callee.value (Operand.func 24), args := #[Operand.tmp 133], argTypes := #[24] }, type := 9, pos := "laws.go:649", after := #[{ on := 56, ground := Ground.data }, { on := 55, ground := Ground.chain }, { on := 55, ground := Ground.guard }], guard := some (55, false) },
      { dst := some 135, op := Op.move (Operand.tmp 12), type := 24, pos := "laws.go:649", after := #[{ on := 55, ground := Ground.guard }], guard := some (55, false) },
      { dst := some 136, op := Op.call { callee := Callee.value (Operand.func 25), args := #[Operand.tmp 135], argTypes := #[24] }, type := 9, pos := "laws.go:649", after := #[{ on := 58, ground := Ground.data }, { on := 57, ground := Ground.chain }, { on := 55, ground := Ground.guard }], guard := some (55, false) },
      { dst := some 137, op := Op.binOp BinOp.neq 9 (Operand.tmp 134) (Operand.tmp 136) 9, type := 4, pos := "laws.go:649", after := #[{ on := 57, ground := Ground.data }, { on := 59, ground := Ground.data }, { on := 55, ground := Ground.guard }], guard := some (55, false) },
      { dst := some 138, op := Op.pick (Operand.tmp 132) (Operand.const (Value.bool true)) (Operand.tmp 137), type := 4, pos := "laws.go:649", after := #[{ on := 55, ground := Ground.data }, { on := 60, ground := Ground.data }], guard := none }] true).wp Tryz.prog Q ⟨#[v0, v1, v2, v3, v4, v5, v6, v7, .pointer (some ⟨bx, 0, none⟩), .bool ok, .pointer (some ⟨by_, 0, none⟩), .bool ok, .slice x_p n_p c_p, .pointer (some ⟨bq, 0, none⟩), v14, v15, .slice x_c n_c c_c, .bool may, .slice x_d n_d c_d, .bool may, .slice x_s n_s c_s, .pointer (some ⟨bm, 0, none⟩), v22, v23, v24, v25, v26, v27, v28, v29, v30, v31, v32, v33, v34, v35, v36, v37, v38, v39, v40, v41, v42, v43, v44, v45, v46, v47, v48, v49, v50, v51, v52, v53, v54, v55, v56, v57, v58, v59, v60, v61, v62, v63, v64, v65, v66, v67, v68, v69, v70, v71, v72, v73, v74, v75, v76, v77, v78, v79, v80, v81, v82, v83, v84, v85, v86, v87, v88, v89, v90, v91, v92, v93, v94, v95, v96, v97, v98, v99, v100, v101, v102, v103, v104, v105, v106, v107, v108, v109, v110, v111, v112, v113, v114, v115, v116, v117, v118, v119, v120, v121, v122, v123, v124, v125, v126, v127, v128, v129, v130, v131, v132, v133, v134, v135, v136, v137, v138, v139, v140, v141, v142, v143, v144, v145, v146, v147, v148, v149, v150, v151, v152, v153, v154, v155, v156, v157, v158, v159, v160, v161, v162, v163, v164, v165, v166, v167, v168, v169, v170, v171, v172, v173, v174, v175, v176, v177, v178, v179, v180, v181, v182, v183], []⟩ w := by
  have HQ := Lib.hid hQ; clear hQ
  have hdr : Below w.heap.size w w.drew := (Below.refl _ _).drew
  have BB := Lib.hid hdr
  refine wp_region_noPanic ?_
  refine wp_region_held_drew (S := (fun w' => w'.cell? ⟨bx, 0, none⟩ = some (.slice x_xa n_xa c_xa) ∧ w'.cell? ⟨bx, 1, none⟩ = some (.slice x_xb n_xb c_xb) ∧ w'.cell? ⟨bx, 2, none⟩ = some (.slice x_xc n_xc c_xc) ∧ w'.cell? ⟨bx, 3, none⟩ = some (.int .i64 xx.2.2.2.1) ∧ w'.cell? ⟨bx, 4, none⟩ = some (.int .i64 xx.2.2.2.2) ∧ w'.cell? ⟨by_, 0, none⟩ = some (.slice x_ya n_ya c_ya) ∧ w'.cell? ⟨by_, 1, none⟩ = some (.slice x_yb n_yb c_yb) ∧ w'.cell? ⟨by_, 2, none⟩ = some (.slice x_yc n_yc c_yc) ∧ w'.cell? ⟨by_, 3, none⟩ = some (.int .i64 xx.2.2.2.1) ∧ w'.cell? ⟨by_, 4, none⟩ = some (.int .i64 xx.2.2.2.2) ∧ w'.cell? ⟨bq, 0, none⟩ = some (.slice x_qa n_qa c_qa) ∧ w'.cell? ⟨bq, 1, none⟩ = some (.slice x_qb n_qb c_qb) ∧ w'.cell? ⟨bq, 2, none⟩ = some (.slice x_qc n_qc c_qc) ∧ w'.cell? ⟨bq, 3, none⟩ = some (.int .i64 xq.2.2.2.1) ∧ w'.cell? ⟨bq, 4, none⟩ = some (.int .i64 xq.2.2.2.2) ∧ w'.cell? ⟨bm, 0, none⟩ = some (.slice x_m n_m c_m))) (by kernel_rfl) ?_ (fun hHeld => ?_)
  · exact ⟨kc K0_x.out BB.out, kc K1_x.out BB.out, kc K2_x.out BB.out, kc K3_x.out BB.out, kc K4_x.out BB.out, kc K0_y.out BB.out, kc K1_y.out BB.out, kc K2_y.out BB.out, kc K3_y.out BB.out, kc K4_y.out BB.out, kc K0_q.out BB.out, kc K1_q.out BB.out, kc K2_q.out BB.out, kc K3_q.out BB.out, kc K4_q.out BB.out, kc K0_m.out BB.out⟩
  clear hdr
  generalize w.drew = wd at *
  refine wpAnyH_take (i := 0) (oi := { dst := some 77, op := Op.load 31 (Operand.tmp 8), type := 31, pos := "laws.go:649", after := #[], guard := none }) (v := ?_) rfl (by kernel_rfl) (by kernel_rfl) (by kernel_rfl) (fun _ _ _ h => h) (Or.inl ⟨by rfl, ?_⟩) (by assumption) ?_
  rotate_left
  · intro w' hSw; (try dsimp only at hSw); first | (go_simp; done) | (go_simp; with_reducible rfl)
  (try simp only [Act.put, List.setIfInBounds_toArray, List.set_cons_zero, List.set_cons_succ])
  refine wpAnyH_take (i := 1) (oi := { dst := some 78, op := Op.load 31 (Operand.tmp 10), type := 31, pos := "laws.go:649", after := #[], guard := none }) (v := ?_) rfl (by kernel_rfl) (by kernel_rfl) (by kernel_rfl) (fun _ _ _ h => h) (Or.inl ⟨by rfl, ?_⟩) (by assumption) ?_
  rotate_left
  · intro w' hSw; (try dsimp only at hSw); first | (go_simp; done) | (go_simp; with_reducible rfl)
  (try simp only [Act.put, List.setIfInBounds_toArray, List.set_cons_zero, List.set_cons_succ])
  refine wpAnyH_ready (rs := [2]) (by kernel_rfl) (by simp) ?_
  refine AllReadyH.cons (o := { dst := some 79, op := Op.call { callee := Callee.value (Operand.func 13), args := #[Operand.tmp 77, Operand.tmp 78], argTypes := #[31, 31] }, type := 4, pos := "laws.go:649", after := #[{ on := 0, ground := Ground.data }, { on := 1, ground := Ground.data }], guard := none }) rfl (fun K hK => ?_) AllReadyH.nil
  go_simp
  refine (sameDV true (eqD_self xx) (H_x.out.on BB.out) (H_y.out.on BB.out) HYX.out HYX.out (by omega) (by omega)).mono ?_
  rintro e wn1 ⟨rfl, hb⟩
  replace BB := Lib.hid (BB.out.trans (hb.mono BB.out.size))
  clear hb
  (try go_wp2_with fail)
  clear hHeld
  refine hK.out _ _ ?_ (fun hHeld => ?_)
  · (try dsimp only); exact ⟨kc K0_x.out BB.out, kc K1_x.out BB.out, kc K2_x.out BB.out, kc K3_x.out BB.out, kc K4_x.out BB.out, kc K0_y.out BB.out, kc K1_y.out BB.out, kc K2_y.out BB.out, kc K3_y.out BB.out, kc K4_y.out BB.out, kc K0_q.out BB.out, kc K1_q.out BB.out, kc K2_q.out BB.out, kc K3_q.out BB.out, kc K4_q.out BB.out, kc K0_m.out BB.out⟩
  clear hK K
  (try simp only [Act.put, List.setIfInBounds_toArray, List.set_cons_zero, List.set_cons_succ])
  refine wpAnyH_take (i := 3) (oi := { dst := some 80, op := Op.unOp UnOp.not 4 (Operand.tmp 79), type := 4, pos := "laws.go:649", after := #[{ on := 2, ground := Ground.data }], guard := none }) (v := ?_) rfl (by kernel_rfl) (by kernel_rfl) (by kernel_rfl) (fun _ _ _ h => h) (Or.inl ⟨by rfl, ?_⟩) (by assumption) ?_
  rotate_left
  · intro w' hSw; (try dsimp only at hSw); first | (go_simp; done) | (go_simp; with_reducible rfl)
  (try simp only [Act.put, List.setIfInBounds_toArray, List.set_cons_zero, List.set_cons_succ])
  refine wpAnyH_take (i := 4) (oi := { dst := some 81, op := Op.move (Operand.tmp 80), type := 4, pos := "laws.go:649", after := #[{ on := 3, ground := Ground.data }, { on := 2, ground := Ground.chain }], guard := none }) (v := ?_) rfl (by kernel_rfl) (by kernel_rfl) (by kernel_rfl) (fun _ _ _ h => h) (Or.inl ⟨by rfl, ?_⟩) (by assumption) ?_
  rotate_left
  · intro w' hSw; (try dsimp only at hSw); first | (go_simp; done) | (go_simp; with_reducible rfl)
  (try simp only [Act.put, List.setIfInBounds_toArray, List.set_cons_zero, List.set_cons_succ])
  refine wpAnyH_take (i := 5) (oi := { dst := some 82, op := Op.move (Operand.tmp 9), type := 4, pos := "laws.go:649", after := #[{ on := 4, ground := Ground.guard }], guard := some (4, false) }) (v := ?_) rfl (by kernel_rfl) (by kernel_rfl) (by kernel_rfl) (fun _ _ _ h => h) (Or.inl ⟨by rfl, ?_⟩) (by assumption) ?_
  rotate_left
  · intro w' hSw; (try dsimp only at hSw); first | (go_simp; done) | (go_simp; with_reducible rfl)
  (try simp only [Act.put, List.setIfInBounds_toArray, List.set_cons_zero, List.set_cons_succ])
  refine wpAnyH_take (i := 6) (oi := { dst := some 83, op := Op.move (Operand.tmp 11), type := 4, pos := "laws.go:649", after := #[{ on := 4, ground := Ground.guard }], guard := some (4, false) }) (v := ?_) rfl (by kernel_rfl) (by kernel_rfl) (by kernel_rfl) (fun _ _ _ h => h) (Or.inl ⟨by rfl, ?_⟩) (by assumption) ?_
  rotate_left
  · intro w' hSw; (try dsimp only at hSw); first | (go_simp; done) | (go_simp; with_reducible rfl)
  (try simp only [Act.put, List.setIfInBounds_toArray, List.set_cons_zero, List.set_cons_succ])
  refine wpAnyH_take (i := 7) (oi := { dst := some 84, op := Op.binOp BinOp.neq 4 (Operand.tmp 82) (Operand.tmp 83) 4, type := 4, pos := "laws.go:649", after := #[{ on := 5, ground := Ground.data }, { on := 6, ground := Ground.data }, { on := 4, ground := Ground.guard }], guard := some (4, false) }) (v := ?_) rfl (by kernel_rfl) (by kernel_rfl) (by kernel_rfl) (fun _ _ _ h => h) (Or.inl ⟨by rfl, ?_⟩) (by assumption) ?_
  rotate_left
  · intro w' hSw; (try dsimp only at hSw); first | (go_simp; done) | (go_simp; with_reducible rfl)
  (try simp only [Act.put, List.setIfInBounds_toArray, List.set_cons_zero, List.set_cons_succ])
  refine wpAnyH_take (i := 8) (oi := { dst := some 85, op := Op.pick (Operand.tmp 81) (Operand.const (Value.bool true)) (Operand.tmp 84), type := 4, pos := "laws.go:649", after := #[{ on := 4, ground := Ground.data }, { on := 7, ground := Ground.data }], guard := none }) (v := ?_) rfl (by kernel_rfl) (by kernel_rfl) (by kernel_rfl) (fun _ _ _ h => h) (Or.inl ⟨by rfl, ?_⟩) (by assumption) ?_
  rotate_left
  · intro w' hSw; (try dsimp only at hSw); first | (go_simp; done) | (go_simp; with_reducible rfl)
  (try simp only [Act.put, List.setIfInBounds_toArray, List.set_cons_zero, List.set_cons_succ])
  refine wpAnyH_take (i := 9) (oi := { dst := some 86, op := Op.move (Operand.tmp 85), type := 4, pos := "laws.go:649", after := #[{ on := 8, ground := Ground.data }, { on := 4, ground := Ground.chain }], guard := none }) (v := ?_) rfl (by kernel_rfl) (by kernel_rfl) (by kernel_rfl) (fun _ _ _ h => h) (Or.inl ⟨by rfl, ?_⟩) (by assumption) ?_
  rotate_left
  · intro w' hSw; (try dsimp only at hSw); first | (go_simp; done) | (go_simp; with_reducible rfl)
  (try simp only [Act.put, List.setIfInBounds_toArray, List.set_cons_zero, List.set_cons_succ])
  refine wpAnyH_take (i := 10) (oi := { dst := some 87, op := Op.move (Operand.tmp 12), type := 24, pos := "laws.go:649", after := #[{ on := 9, ground := Ground.guard }], guard := some (9, false) }) (v := ?_) rfl (by kernel_rfl) (by kernel_rfl) (by kernel_rfl) (fun _ _ _ h => h) (Or.inl ⟨by rfl, ?_⟩) (by assumption) ?_
  rotate_left
  · intro w' hSw; (try dsimp only at hSw); first | (go_simp; done) | (go_simp; with_reducible rfl)
  (try simp only [Act.put, List.setIfInBounds_toArray, List.set_cons_zero, List.set_cons_succ])
  refine wpAnyH_take (i := 11) (oi := { dst := some 88, op := Op.load 31 (Operand.tmp 13), type := 31, pos := "laws.go:649", after := #[{ on := 9, ground := Ground.guard }], guard := some (9, false) }) (v := ?_) rfl (by kernel_rfl) (by kernel_rfl) (by kernel_rfl) (fun _ _ _ h => h) (Or.inl ⟨by rfl, ?_⟩) (by assumption) ?_
  rotate_left
  · intro w' hSw; (try dsimp only at hSw); first | (go_simp; done) | (go_simp; with_reducible rfl)
  (try simp only [Act.put, List.setIfInBounds_toArray, List.set_cons_zero, List.set_cons_succ])
  refine wpAnyH_take (i := 13) (oi := { dst := some 90, op := Op.move (Operand.tmp 12), type := 24, pos := "laws.go:649", after := #[{ on := 9, ground := Ground.guard }], guard := some (9, false) }) (v := ?_) rfl (by kernel_rfl) (by kernel_rfl) (by kernel_rfl) (fun _ _ _ h => h) (Or.inl ⟨by rfl, ?_⟩) (by assumption) ?_
  rotate_left
  · intro w' hSw; (try dsimp only at hSw); first | (go_simp; done) | (go_simp; with_reducible rfl)
  (try simp only [Act.put, List.setIfInBounds_toArray, List.set_cons_zero, List.set_cons_succ])
  refine wpAnyH_take (i := 14) (oi := { dst := some 91, op := Op.load 31 (Operand.tmp 13), type := 31, pos := "laws.go:649", after := #[{ on := 9, ground := Ground.guard }], guard := some (9, false) }) (v := ?_) rfl (by kernel_rfl) (by kernel_rfl) (by kernel_rfl) (fun _ _ _ h => h) (Or.inl ⟨by rfl, ?_⟩) (by assumption) ?_
  rotate_left
  · intro w' hSw; (try dsimp only at hSw); first | (go_simp; done) | (go_simp; with_reducible rfl)
  (try simp only [Act.put, List.setIfInBounds_toArray, List.set_cons_zero, List.set_cons_succ])
  refine wpAnyH_ready (rs := [12]) (by kernel_rfl) (by simp) ?_
  refine AllReadyH.cons (o := { dst := some 89, op := Op.call { callee := Callee.value (Operand.func 14), args := #[Operand.tmp 87, Operand.tmp 88], argTypes := #[24, 31] }, type := 4, pos := "laws.go:649", after := #[{ on := 10, ground := Ground.data }, { on := 11, ground := Ground.data }, { on := 9, ground := Ground.chain }, { on := 9, ground := Ground.guard }], guard := some (9, false) }) rfl (fun K hK => ?_) AllReadyH.nil
  go_simp
  refine (iVsV q1 HQ1.out (H_p.out.on BB.out) (H_q.out.on BB.out) HWq.out HKp.out h2).mono ?_
  rintro e wn2 ⟨rfl, hb⟩
  replace BB := Lib.hid (BB.out.trans (hb.mono BB.out.size))
  clear hb
  (try go_wp2_with fail)
  clear hHeld
  refine hK.out _ _ ?_ (fun hHeld => ?_)
  · (try dsimp only); exact ⟨kc K0_x.out BB.out, kc K1_x.out BB.out, kc K2_x.out BB.out, kc K3_x.out BB.out, kc K4_x.out BB.out, kc K0_y.out BB.out, kc K1_y.out BB.out, kc K2_y.out BB.out, kc K3_y.out BB.out, kc K4_y.out BB.out, kc K0_q.out BB.out, kc K1_q.out BB.out, kc K2_q.out BB.out, kc K3_q.out BB.out, kc K4_q.out BB.out, kc K0_m.out BB.out⟩
  clear hK K
  (try simp only [Act.put, List.setIfInBounds_toArray, List.set_cons_zero, List.set_cons_succ])
  refine wpAnyH_ready (rs := [15]) (by kernel_rfl) (by simp) ?_
  refine AllReadyH.cons (o := { dst := some 92, op := Op.call { callee := Callee.value (Operand.func 15), args := #[Operand.tmp 90, Operand.tmp 91], argTypes := #[24, 31] }, type := 4, pos := "laws.go:649", after := #[{ on := 13, ground := Ground.data }, { on := 14, ground := Ground.data }, { on := 12, ground := Ground.chain }, { on := 9, ground := Ground.guard }], guard := some (9, false) }) rfl (fun K hK => ?_) AllReadyH.nil
  go_simp
  refine (sVsV q1 HQ1.out (H_p.out.on BB.out) (H_q.out.on BB.out) HWq.out HKp.out h2).mono ?_
  rintro e wn3 ⟨rfl, hb⟩
  replace BB := Lib.hid (BB.out.trans (hb.mono BB.out.size))
  clear hb
  (try go_wp2_with fail)
  clear hHeld
  refine hK.out _ _ ?_ (fun hHeld => ?_)
  · (try dsimp only); exact ⟨kc K0_x.out BB.out, kc K1_x.out BB.out, kc K2_x.out BB.out, kc K3_x.out BB.out, kc K4_x.out BB.out, kc K0_y.out BB.out, kc K1_y.out BB.out, kc K2_y.out BB.out, kc K3_y.out BB.out, kc K4_y.out BB.out, kc K0_q.out BB.out, kc K1_q.out BB.out, kc K2_q.out BB.out, kc K3_q.out BB.out, kc K4_q.out BB.out, kc K0_m.out BB.out⟩
  clear hK K
  (try simp only [Act.put, List.setIfInBounds_toArray, List.set_cons_zero, List.set_cons_succ])
  refine wpAnyH_take (i := 16) (oi := { dst := some 93, op := Op.binOp BinOp.neq 4 (Operand.tmp 89) (Operand.tmp 92) 4, type := 4, pos := "laws.go:649", after := #[{ on := 12, ground := Ground.data }, { on := 15, ground := Ground.data }, { on := 9, ground := Ground.guard }], guard := some (9, false) }) (v := ?_) rfl (by kernel_rfl) (by kernel_rfl) (by kernel_rfl) (fun _ _ _ h => h) (Or.inl ⟨by rfl, ?_⟩) (by assumption) ?_
  rotate_left
  · intro w' hSw; (try dsimp only at hSw); first | (go_simp; done) | (go_simp; with_reducible rfl)
  (try simp only [Act.put, List.setIfInBounds_toArray, List.set_cons_zero, List.set_cons_succ])
  refine wpAnyH_take (i := 17) (oi := { dst := some 94, op := Op.pick (Operand.tmp 86) (Operand.const (Value.bool true)) (Operand.tmp 93), type := 4, pos := "laws.go:649", after := #[{ on := 9, ground := Ground.data }, { on := 16, ground := Ground.data }], guard := none }) (v := ?_) rfl (by kernel_rfl) (by kernel_rfl) (by kernel_rfl) (fun _ _ _ h => h) (Or.inl ⟨by rfl, ?_⟩) (by assumption) ?_
  rotate_left
  · intro w' hSw; (try dsimp only at hSw); first | (go_simp; done) | (go_simp; with_reducible rfl)
  (try simp only [Act.put, List.setIfInBounds_toArray, List.set_cons_zero, List.set_cons_succ])
  refine wpAnyH_take (i := 18) (oi := { dst := some 95, op := Op.move (Operand.tmp 94), type := 4, pos := "laws.go:649", after := #[{ on := 17, ground := Ground.data }, { on := 15, ground := Ground.chain }], guard := none }) (v := ?_) rfl (by kernel_rfl) (by kernel_rfl) (by kernel_rfl) (fun _ _ _ h => h) (Or.inl ⟨by rfl, ?_⟩) (by assumption) ?_
  rotate_left
  · intro w' hSw; (try dsimp only at hSw); first | (go_simp; done) | (go_simp; with_reducible rfl)
  (try simp only [Act.put, List.setIfInBounds_toArray, List.set_cons_zero, List.set_cons_succ])
  refine wpAnyH_take (i := 19) (oi := { dst := some 96, op := Op.move (Operand.tmp 12), type := 24, pos := "laws.go:649", after := #[{ on := 18, ground := Ground.guard }], guard := some (18, false) }) (v := ?_) rfl (by kernel_rfl) (by kernel_rfl) (by kernel_rfl) (fun _ _ _ h => h) (Or.inl ⟨by rfl, ?_⟩) (by assumption) ?_
  rotate_left
  · intro w' hSw; (try dsimp only at hSw); first | (go_simp; done) | (go_simp; with_reducible rfl)
  (try simp only [Act.put, List.setIfInBounds_toArray, List.set_cons_zero, List.set_cons_succ])
  refine wpAnyH_take (i := 20) (oi := { dst := some 97, op := Op.load 31 (Operand.tmp 13), type := 31, pos := "laws.go:649", after := #[{ on := 18, ground := Ground.guard }], guard := some (18, false) }) (v := ?_) rfl (by kernel_rfl) (by kernel_rfl) (by kernel_rfl) (fun _ _ _ h => h) (Or.inl ⟨by rfl, ?_⟩) (by assumption) ?_
  rotate_left
  · intro w' hSw; (try dsimp only at hSw); first | (go_simp; done) | (go_simp; with_reducible rfl)
  (try simp only [Act.put, List.setIfInBounds_toArray, List.set_cons_zero, List.set_cons_succ])
  refine wpAnyH_take (i := 22) (oi := { dst := some 99, op := Op.move (Operand.tmp 12), type := 24, pos := "laws.go:649", after := #[{ on := 18, ground := Ground.guard }], guard := some (18, false) }) (v := ?_) rfl (by kernel_rfl) (by kernel_rfl) (by kernel_rfl) (fun _ _ _ h => h) (Or.inl ⟨by rfl, ?_⟩) (by assumption) ?_
  rotate_left
  · intro w' hSw; (try dsimp only at hSw); first | (go_simp; done) | (go_simp; with_reducible rfl)
  (try simp only [Act.put, List.setIfInBounds_toArray, List.set_cons_zero, List.set_cons_succ])
  refine wpAnyH_take (i := 23) (oi := { dst := some 100, op := Op.load 31 (Operand.tmp 13), type := 31, pos := "laws.go:649", after := #[{ on := 18, ground := Ground.guard }], guard := some (18, false) }) (v := ?_) rfl (by kernel_rfl) (by kernel_rfl) (by kernel_rfl) (fun _ _ _ h => h) (Or.inl ⟨by rfl, ?_⟩) (by assumption) ?_
  rotate_left
  · intro w' hSw; (try dsimp only at hSw); first | (go_simp; done) | (go_simp; with_reducible rfl)
  (try simp only [Act.put, List.setIfInBounds_toArray, List.set_cons_zero, List.set_cons_succ])
  refine wpAnyH_ready (rs := [21]) (by kernel_rfl) (by simp) ?_
  refine AllReadyH.cons (o := { dst := some 98, op := Op.call { callee := Callee.value (Operand.func 17), args := #[Operand.tmp 96, Operand.tmp 97], argTypes := #[24, 31] }, type := 47, pos := "laws.go:649", after := #[{ on := 19, ground := Ground.data }, { on := 20, ground := Ground.data }, { on := 18, ground := Ground.chain }, { on := 18, ground := Ground.guard }], guard := some (18, false) }) rfl (fun K hK => ?_) AllReadyH.nil
  go_simp
  refine (iMkV mt HMT.out (H_p.out.on BB.out) (H_q.out.on BB.out) HWq.out HKp.out h2).mono ?_
  rintro e wn4 ⟨U_i, rfl, ho, hb⟩
  obtain ⟨x_i, n_i, c_i, rfl, ho⟩ := kI_shape ho
  have R_i := Lib.hid ho.at; clear ho
  replace BB := Lib.hid (BB.out.trans (hb.mono BB.out.size))
  clear hb
  (try go_wp2_with fail)
  clear hHeld
  refine hK.out _ _ ?_ (fun hHeld => ?_)
  · (try dsimp only); exact ⟨kc K0_x.out BB.out, kc K1_x.out BB.out, kc K2_x.out BB.out, kc K3_x.out BB.out, kc K4_x.out BB.out, kc K0_y.out BB.out, kc K1_y.out BB.out, kc K2_y.out BB.out, kc K3_y.out BB.out, kc K4_y.out BB.out, kc K0_q.out BB.out, kc K1_q.out BB.out, kc K2_q.out BB.out, kc K3_q.out BB.out, kc K4_q.out BB.out, kc K0_m.out BB.out⟩
  clear hK K
  (try simp only [Act.put, List.setIfInBounds_toArray, List.set_cons_zero, List.set_cons_succ])
  refine wpAnyH_ready (rs := [24]) (by kernel_rfl) (by simp) ?_
  refine AllReadyH.cons (o := { dst := some 101, op := Op.call { callee := Callee.value (Operand.func 18), args := #[Operand.tmp 99, Operand.tmp 100], argTypes := #[24, 31] }, type := 47, pos := "laws.go:649", after := #[{ on := 22, ground := Ground.data }, { on := 23, ground := Ground.data }, { on := 21, ground := Ground.chain }, { on := 18, ground := Ground.guard }], guard := some (18, false) }) rfl (fun K hK => ?_) AllReadyH.nil
  go_simp
  refine (sMkV mt HMT.out (H_p.out.on BB.out) (H_q.out.on BB.out) HWq.out HKp.out h2).mono ?_
  rintro e wn5 ⟨U_j, rfl, ho, hb⟩
  obtain ⟨x_j, n_j, c_j, rfl, ho⟩ := kI_shape ho
  have R_j := Lib.hid ho.at; clear ho
  replace R_i := Lib.hid (R_i.out.on hb)
  replace BB := Lib.hid (BB.out.trans (hb.mono BB.out.size))
  clear hb
  (try go_wp2_with fail)
  clear hHeld
  refine hK.out _ _ ?_ (fun hHeld => ?_)
  · (try dsimp only); exact ⟨kc K0_x.out BB.out, kc K1_x.out BB.out, kc K2_x.out BB.out, kc K3_x.out BB.out, kc K4_x.out BB.out, kc K0_y.out BB.out, kc K1_y.out BB.out, kc K2_y.out BB.out, kc K3_y.out BB.out, kc K4_y.out BB.out, kc K0_q.out BB.out, kc K1_q.out BB.out, kc K2_q.out BB.out, kc K3_q.out BB.out, kc K4_q.out BB.out, kc K0_m.out BB.out⟩
  clear hK K
  (try simp only [Act.put, List.setIfInBounds_toArray, List.set_cons_zero, List.set_cons_succ])
  refine wpAnyH_ready (rs := [25]) (by kernel_rfl) (by simp) ?_
  refine AllReadyH.cons (o := { dst := some 102, op := Op.call { callee := Callee.value (Operand.func 16), args := #[Operand.tmp 98, Operand.tmp 101], argTypes := #[47, 47] }, type := 4, pos := "laws.go:649", after := #[{ on := 21, ground := Ground.data }, { on := 24, ground := Ground.data }, { on := 24, ground := Ground.chain }, { on := 18, ground := Ground.guard }], guard := some (18, false) }) rfl (fun K hK => ?_) AllReadyH.nil
  go_simp
  refine (sameIV8 R_i.out R_j.out (mat_small HMT.out HKp.out)).mono ?_
  rintro e wn6 ⟨rfl, hb⟩
  replace R_i := Lib.hid (R_i.out.on hb)
  replace R_j := Lib.hid (R_j.out.on hb)
  replace BB := Lib.hid (BB.out.trans (hb.mono BB.out.size))
  clear hb
  (try go_wp2_with fail)
  clear hHeld
  refine hK.out _ _ ?_ (fun hHeld => ?_)
  · (try dsimp only); exact ⟨kc K0_x.out BB.out, kc K1_x.out BB.out, kc K2_x.out BB.out, kc K3_x.out BB.out, kc K4_x.out BB.out, kc K0_y.out BB.out, kc K1_y.out BB.out, kc K2_y.out BB.out, kc K3_y.out BB.out, kc K4_y.out BB.out, kc K0_q.out BB.out, kc K1_q.out BB.out, kc K2_q.out BB.out, kc K3_q.out BB.out, kc K4_q.out BB.out, kc K0_m.out BB.out⟩
  clear hK K
  (try simp only [Act.put, List.setIfInBounds_toArray, List.set_cons_zero, List.set_cons_succ])
  refine wpAnyH_take (i := 26) (oi := { dst := some 103, op := Op.unOp UnOp.not 4 (Operand.tmp 102), type := 4, pos := "laws.go:649", after := #[{ on := 25, ground := Ground.data }, { on := 18, ground := Ground.guard }], guard := some (18, false) }) (v := ?_) rfl (by kernel_rfl) (by kernel_rfl) (by kernel_rfl) (fun _ _ _ h => h) (Or.inl ⟨by rfl, ?_⟩) (by assumption) ?_
  rotate_left
  · intro w' hSw; (try dsimp only at hSw); first | (go_simp; done) | (go_simp; with_reducible rfl)
  (try simp only [Act.put, List.setIfInBounds_toArray, List.set_cons_zero, List.set_cons_succ])
  refine wpAnyH_take (i := 27) (oi := { dst := some 104, op := Op.pick (Operand.tmp 95) (Operand.const (Value.bool true)) (Operand.tmp 103), type := 4, pos := "laws.go:649", after := #[{ on := 18, ground := Ground.data }, { on := 26, ground := Ground.data }], guard := none }) (v := ?_) rfl (by kernel_rfl) (by kernel_rfl) (by kernel_rfl) (fun _ _ _ h => h) (Or.inl ⟨by rfl, ?_⟩) (by assumption) ?_
  rotate_left
  · intro w' hSw; (try dsimp only at hSw); first | (go_simp; done) | (go_simp; with_reducible rfl)
  (try simp only [Act.put, List.setIfInBounds_toArray, List.set_cons_zero, List.set_cons_succ])
  refine wpAnyH_take (i := 28) (oi := { dst := some 105, op := Op.move (Operand.tmp 104), type := 4, pos := "laws.go:649", after := #[{ on := 27, ground := Ground.data }, { on := 25, ground := Ground.chain }], guard := none }) (v := ?_) rfl (by kernel_rfl) (by kernel_rfl) (by kernel_rfl) (fun _ _ _ h => h) (Or.inl ⟨by rfl, ?_⟩) (by assumption) ?_
  rotate_left
  · intro w' hSw; (try dsimp only at hSw); first | (go_simp; done) | (go_simp; with_reducible rfl)
  (try simp only [Act.put, List.setIfInBounds_toArray, List.set_cons_zero, List.set_cons_succ])
  refine wpAnyH_take (i := 29) (oi := { dst := some 106, op := Op.move (Operand.tmp 16), type := 24, pos := "laws.go:649", after := #[{ on := 28, ground := Ground.guard }], guard := some (28, false) }) (v := ?_) rfl (by kernel_rfl) (by kernel_rfl) (by kernel_rfl) (fun _ _ _ h => h) (Or.inl ⟨by rfl, ?_⟩) (by assumption) ?_
  rotate_left
  · intro w' hSw; (try dsimp only at hSw); first | (go_simp; done) | (go_simp; with_reducible rfl)
  (try simp only [Act.put, List.setIfInBounds_toArray, List.set_cons_zero, List.set_cons_succ])
  refine wpAnyH_take (i := 30) (oi := { dst := some 107, op := Op.move (Operand.tmp 18), type := 24, pos := "laws.go:649", after := #[{ on := 28, ground := Ground.guard }], guard := some (28, false) }) (v := ?_) rfl (by kernel_rfl) (by kernel_rfl) (by kernel_rfl) (fun _ _ _ h => h) (Or.inl ⟨by rfl, ?_⟩) (by assumption) ?_
  rotate_left
  · intro w' hSw; (try dsimp only at hSw); first | (go_simp; done) | (go_simp; with_reducible rfl)
  (try simp only [Act.put, List.setIfInBounds_toArray, List.set_cons_zero, List.set_cons_succ])
  refine wpAnyH_ready (rs := [31]) (by kernel_rfl) (by simp) ?_
  refine AllReadyH.cons (o := { dst := some 108, op := Op.call { callee := Callee.value (Operand.func 19), args := #[Operand.tmp 106, Operand.tmp 107], argTypes := #[24, 24] }, type := 4, pos := "laws.go:649", after := #[{ on := 29, ground := Ground.data }, { on := 30, ground := Ground.data }, { on := 28, ground := Ground.chain }, { on := 28, ground := Ground.guard }], guard := some (28, false) }) rfl (fun K hK => ?_) AllReadyH.nil
  go_simp
  refine (sameKV (H_c.out.on BB.out) (H_d.out.on BB.out) HKc.out).mono ?_
  rintro e wn7 ⟨rfl, hb⟩
  replace R_i := Lib.hid (R_i.out.on hb)
  replace R_j := Lib.hid (R_j.out.on hb)
  replace BB := Lib.hid (BB.out.trans (hb.mono BB.out.size))
  clear hb
  (try go_wp2_with fail)
  clear hHeld
  refine hK.out _ _ ?_ (fun hHeld => ?_)
  · (try dsimp only); exact ⟨kc K0_x.out BB.out, kc K1_x.out BB.out, kc K2_x.out BB.out, kc K3_x.out BB.out, kc K4_x.out BB.out, kc K0_y.out BB.out, kc K1_y.out BB.out, kc K2_y.out BB.out, kc K3_y.out BB.out, kc K4_y.out BB.out, kc K0_q.out BB.out, kc K1_q.out BB.out, kc K2_q.out BB.out, kc K3_q.out BB.out, kc K4_q.out BB.out, kc K0_m.out BB.out⟩
  clear hK K
  (try simp only [Act.put, List.setIfInBounds_toArray, List.set_cons_zero, List.set_cons_succ])
  refine wpAnyH_take (i := 32) (oi := { dst := some 109, op := Op.unOp UnOp.not 4 (Operand.tmp 108), type := 4, pos := "laws.go:649", after := #[{ on := 31, ground := Ground.data }, { on := 28, ground := Ground.guard }], guard := some (28, false) }) (v := ?_) rfl (by kernel_rfl) (by kernel_rfl) (by kernel_rfl) (fun _ _ _ h => h) (Or.inl ⟨by rfl, ?_⟩) (by assumption) ?_
  rotate_left
  · intro w' hSw; (try dsimp only at hSw); first | (go_simp; done) | (go_simp; with_reducible rfl)
  (try simp only [Act.put, List.setIfInBounds_toArray, List.set_cons_zero, List.set_cons_succ])
  refine wpAnyH_take (i := 33) (oi := { dst := some 110, op := Op.pick (Operand.tmp 105) (Operand.const (Value.bool true)) (Operand.tmp 109), type := 4, pos := "laws.go:649", after := #[{ on := 28, ground := Ground.data }, { on := 32, ground := Ground.data }], guard := none }) (v := ?_) rfl (by kernel_rfl) (by kernel_rfl) (by kernel_rfl) (fun _ _ _ h => h) (Or.inl ⟨by rfl, ?_⟩) (by assumption) ?_
  rotate_left
  · intro w' hSw; (try dsimp only at hSw); first | (go_simp; done) | (go_simp; with_reducible rfl)
  (try simp only [Act.put, List.setIfInBounds_toArray, List.set_cons_zero, List.set_cons_succ])
  refine wpAnyH_take (i := 34) (oi := { dst := some 111, op := Op.move (Operand.tmp 110), type := 4, pos := "laws.go:649", after := #[{ on := 33, ground := Ground.data }, { on := 31, ground := Ground.chain }], guard := none }) (v := ?_) rfl (by kernel_rfl) (by kernel_rfl) (by kernel_rfl) (fun _ _ _ h => h) (Or.inl ⟨by rfl, ?_⟩) (by assumption) ?_
  rotate_left
  · intro w' hSw; (try dsimp only at hSw); first | (go_simp; done) | (go_simp; with_reducible rfl)
  (try simp only [Act.put, List.setIfInBounds_toArray, List.set_cons_zero, List.set_cons_succ])
  refine wpAnyH_take (i := 35) (oi := { dst := some 112, op := Op.move (Operand.tmp 17), type := 4, pos := "laws.go:649", after := #[{ on := 34, ground := Ground.guard }], guard := some (34, false) }) (v := ?_) rfl (by kernel_rfl) (by kernel_rfl) (by kernel_rfl) (fun _ _ _ h => h) (Or.inl ⟨by rfl, ?_⟩) (by assumption) ?_
  rotate_left
  · intro w' hSw; (try dsimp only at hSw); first | (go_simp; done) | (go_simp; with_reducible rfl)
  (try simp only [Act.put, List.setIfInBounds_toArray, List.set_cons_zero, List.set_cons_succ])
  refine wpAnyH_take (i := 36) (oi := { dst := some 113, op := Op.move (Operand.tmp 19), type := 4, pos := "laws.go:649", after := #[{ on := 34, ground := Ground.guard }], guard := some (34, false) }) (v := ?_) rfl (by kernel_rfl) (by kernel_rfl) (by kernel_rfl) (fun _ _ _ h => h) (Or.inl ⟨by rfl, ?_⟩) (by assumption) ?_
  rotate_left
  · intro w' hSw; (try dsimp only at hSw); first | (go_simp; done) | (go_simp; with_reducible rfl)
  (try simp only [Act.put, List.setIfInBounds_toArray, List.set_cons_zero, List.set_cons_succ])
  refine wpAnyH_take (i := 37) (oi := { dst := some 114, op := Op.binOp BinOp.neq 4 (Operand.tmp 112) (Operand.tmp 113) 4, type := 4, pos := "laws.go:649", after := #[{ on := 35, ground := Ground.data }, { on := 36, ground := Ground.data }, { on := 34, ground := Ground.guard }], guard := some (34, false) }) (v := ?_) rfl (by kernel_rfl) (by kernel_rfl) (by kernel_rfl) (fun _ _ _ h => h) (Or.inl ⟨by rfl, ?_⟩) (by assumption) ?_
  rotate_left
  · intro w' hSw; (try dsimp only at hSw); first | (go_simp; done) | (go_simp; with_reducible rfl)
  (try simp only [Act.put, List.setIfInBounds_toArray, List.set_cons_zero, List.set_cons_succ])
  refine wpAnyH_take (i := 38) (oi := { dst := some 115, op := Op.pick (Operand.tmp 111) (Operand.const (Value.bool true)) (Operand.tmp 114), type := 4, pos := "laws.go:649", after := #[{ on := 34, ground := Ground.data }, { on := 37, ground := Ground.data }], guard := none }) (v := ?_) rfl (by kernel_rfl) (by kernel_rfl) (by kernel_rfl) (fun _ _ _ h => h) (Or.inl ⟨by rfl, ?_⟩) (by assumption) ?_
  rotate_left
  · intro w' hSw; (try dsimp only at hSw); first | (go_simp; done) | (go_simp; with_reducible rfl)
  (try simp only [Act.put, List.setIfInBounds_toArray, List.set_cons_zero, List.set_cons_succ])
  refine wpAnyH_take (i := 39) (oi := { dst := some 116, op := Op.move (Operand.tmp 115), type := 4, pos := "laws.go:649", after := #[{ on := 38, ground := Ground.data }, { on := 34, ground := Ground.chain }], guard := none }) (v := ?_) rfl (by kernel_rfl) (by kernel_rfl) (by kernel_rfl) (fun _ _ _ h => h) (Or.inl ⟨by rfl, ?_⟩) (by assumption) ?_
  rotate_left
  · intro w' hSw; (try dsimp only at hSw); first | (go_simp; done) | (go_simp; with_reducible rfl)
  (try simp only [Act.put, List.setIfInBounds_toArray, List.set_cons_zero, List.set_cons_succ])
  refine wpAnyH_take (i := 40) (oi := { dst := some 117, op := Op.move (Operand.tmp 20), type := 24, pos := "laws.go:649", after := #[{ on := 39, ground := Ground.guard }], guard := some (39, false) }) (v := ?_) rfl (by kernel_rfl) (by kernel_rfl) (by kernel_rfl) (fun _ _ _ h => h) (Or.inl ⟨by rfl, ?_⟩) (by assumption) ?_
  rotate_left
  · intro w' hSw; (try dsimp only at hSw); first | (go_simp; done) | (go_simp; with_reducible rfl)
  (try simp only [Act.put, List.setIfInBounds_toArray, List.set_cons_zero, List.set_cons_succ])
  refine wpAnyH_take (i := 41) (oi := { dst := some 118, op := Op.load 27 (Operand.tmp 21), type := 27, pos := "laws.go:649", after := #[{ on := 39, ground := Ground.guard }], guard := some (39, false) }) (v := ?_) rfl (by kernel_rfl) (by kernel_rfl) (by kernel_rfl) (fun _ _ _ h => h) (Or.inl ⟨by rfl, ?_⟩) (by assumption) ?_
  rotate_left
  · intro w' hSw; (try dsimp only at hSw); first | (go_simp; done) | (go_simp; with_reducible rfl)
  (try simp only [Act.put, List.setIfInBounds_toArray, List.set_cons_zero, List.set_cons_succ])
  refine wpAnyH_take (i := 43) (oi := { dst := some 120, op := Op.move (Operand.tmp 20), type := 24, pos := "laws.go:649", after := #[{ on := 39, ground := Ground.guard }], guard := some (39, false) }) (v := ?_) rfl (by kernel_rfl) (by kernel_rfl) (by kernel_rfl) (fun _ _ _ h => h) (Or.inl ⟨by rfl, ?_⟩) (by assumption) ?_
  rotate_left
  · intro w' hSw; (try dsimp only at hSw); first | (go_simp; done) | (go_simp; with_reducible rfl)
  (try simp only [Act.put, List.setIfInBounds_toArray, List.set_cons_zero, List.set_cons_succ])
  refine wpAnyH_take (i := 44) (oi := { dst := some 121, op := Op.load 27 (Operand.tmp 21), type := 27, pos := "laws.go:649", after := #[{ on := 39, ground := Ground.guard }], guard := some (39, false) }) (v := ?_) rfl (by kernel_rfl) (by kernel_rfl) (by kernel_rfl) (fun _ _ _ h => h) (Or.inl ⟨by rfl, ?_⟩) (by assumption) ?_
  rotate_left
  · intro w' hSw; (try dsimp only at hSw); first | (go_simp; done) | (go_simp; with_reducible rfl)
  (try simp only [Act.put, List.setIfInBounds_toArray, List.set_cons_zero, List.set_cons_succ])
  refine wpAnyH_ready (rs := [42]) (by kernel_rfl) (by simp) ?_
  refine AllReadyH.cons (o := { dst := some 119, op := Op.call { callee := Callee.value (Operand.func 20), args := #[Operand.tmp 117, Operand.tmp 118], argTypes := #[24, 27] }, type := 3, pos := "laws.go:649", after := #[{ on := 40, ground := Ground.data }, { on := 41, ground := Ground.data }, { on := 39, ground := Ground.chain }, { on := 39, ground := Ground.guard }], guard := some (39, false) }) rfl (fun K hK => ?_) AllReadyH.nil
  go_simp
  refine (iSoV q2 HQ2.out (H_s.out.on BB.out) (H_m.out.on BB.out) HKs.out h3).mono ?_
  rintro e wn8 ⟨rfl, hb⟩
  replace R_i := Lib.hid (R_i.out.on hb)
  replace R_j := Lib.hid (R_j.out.on hb)
  replace BB := Lib.hid (BB.out.trans (hb.mono BB.out.size))
  clear hb
  (try go_wp2_with fail)
  clear hHeld
  refine hK.out _ _ ?_ (fun hHeld => ?_)
  · (try dsimp only); exact ⟨kc K0_x.out BB.out, kc K1_x.out BB.out, kc K2_x.out BB.out, kc K3_x.out BB.out, kc K4_x.out BB.out, kc K0_y.out BB.out, kc K1_y.out BB.out, kc K2_y.out BB.out, kc K3_y.out BB.out, kc K4_y.out BB.out, kc K0_q.out BB.out, kc K1_q.out BB.out, kc K2_q.out BB.out, kc K3_q.out BB.out, kc K4_q.out BB.out, kc K0_m.out BB.out⟩
  clear hK K
  (try simp only [Act.put, List.setIfInBounds_toArray, List.set_cons_zero, List.set_cons_succ])
  refine wpAnyH_ready (rs := [45]) (by kernel_rfl) (by simp) ?_
  refine AllReadyH.cons (o := { dst := some 122, op := Op.call { callee := Callee.value (Operand.func 21), args := #[Operand.tmp 120, Operand.tmp 121], argTypes := #[24, 27] }, type := 3, pos := "laws.go:649", after := #[{ on := 43, ground := Ground.data }, { on := 44, ground := Ground.data }, { on := 42, ground := Ground.chain }, { on := 39, ground := Ground.guard }], guard := some (39, false) }) rfl (fun K hK => ?_) AllReadyH.nil
  go_simp
  refine (sSoV q2 HQ2.out (H_s.out.on BB.out) (H_m.out.on BB.out) HKs.out h3).mono ?_
  rintro e wn9 ⟨rfl, hb⟩
  replace R_i := Lib.hid (R_i.out.on hb)
  replace R_j := Lib.hid (R_j.out.on hb)
  replace BB := Lib.hid (BB.out.trans (hb.mono BB.out.size))
  clear hb
  (try go_wp2_with fail)
  clear hHeld
  refine hK.out _ _ ?_ (fun hHeld => ?_)
  · (try dsimp only); exact ⟨kc K0_x.out BB.out, kc K1_x.out BB.out, kc K2_x.out BB.out, kc K3_x.out BB.out, kc K4_x.out BB.out, kc K0_y.out BB.out, kc K1_y.out BB.out, kc K2_y.out BB.out, kc K3_y.out BB.out, kc K4_y.out BB.out, kc K0_q.out BB.out, kc K1_q.out BB.out, kc K2_q.out BB.out, kc K3_q.out BB.out, kc K4_q.out BB.out, kc K0_m.out BB.out⟩
  clear hK K
  (try simp only [Act.put, List.setIfInBounds_toArray, List.set_cons_zero, List.set_cons_succ])
  refine wpAnyH_take (i := 46) (oi := { dst := some 123, op := Op.binOp BinOp.neq 3 (Operand.tmp 119) (Operand.tmp 122) 3, type := 4, pos := "laws.go:649", after := #[{ on := 42, ground := Ground.data }, { on := 45, ground := Ground.data }, { on := 39, ground := Ground.guard }], guard := some (39, false) }) (v := ?_) rfl (by kernel_rfl) (by kernel_rfl) (by kernel_rfl) (fun _ _ _ h => h) (Or.inl ⟨by rfl, ?_⟩) (by assumption) ?_
  rotate_left
  · intro w' hSw; (try dsimp only at hSw); first | (go_simp; done) | (go_simp; with_reducible rfl)
  (try simp only [Act.put, List.setIfInBounds_toArray, List.set_cons_zero, List.set_cons_succ])
  refine wpAnyH_take (i := 47) (oi := { dst := some 124, op := Op.pick (Operand.tmp 116) (Operand.const (Value.bool true)) (Operand.tmp 123), type := 4, pos := "laws.go:649", after := #[{ on := 39, ground := Ground.data }, { on := 46, ground := Ground.data }], guard := none }) (v := ?_) rfl (by kernel_rfl) (by kernel_rfl) (by kernel_rfl) (fun _ _ _ h => h) (Or.inl ⟨by rfl, ?_⟩) (by assumption) ?_
  rotate_left
  · intro w' hSw; (try dsimp only at hSw); first | (go_simp; done) | (go_simp; with_reducible rfl)
  (try simp only [Act.put, List.setIfInBounds_toArray, List.set_cons_zero, List.set_cons_succ])
  refine wpAnyH_take (i := 48) (oi := { dst := some 125, op := Op.move (Operand.tmp 124), type := 4, pos := "laws.go:649", after := #[{ on := 47, ground := Ground.data }, { on := 45, ground := Ground.chain }], guard := none }) (v := ?_) rfl (by kernel_rfl) (by kernel_rfl) (by kernel_rfl) (fun _ _ _ h => h) (Or.inl ⟨by rfl, ?_⟩) (by assumption) ?_
  rotate_left
  · intro w' hSw; (try dsimp only at hSw); first | (go_simp; done) | (go_simp; with_reducible rfl)
  (try simp only [Act.put, List.setIfInBounds_toArray, List.set_cons_zero, List.set_cons_succ])
  refine wpAnyH_take (i := 49) (oi := { dst := some 126, op := Op.move (Operand.tmp 12), type := 24, pos := "laws.go:649", after := #[{ on := 48, ground := Ground.guard }], guard := some (48, false) }) (v := ?_) rfl (by kernel_rfl) (by kernel_rfl) (by kernel_rfl) (fun _ _ _ h => h) (Or.inl ⟨by rfl, ?_⟩) (by assumption) ?_
  rotate_left
  · intro w' hSw; (try dsimp only at hSw); first | (go_simp; done) | (go_simp; with_reducible rfl)
  (try simp only [Act.put, List.setIfInBounds_toArray, List.set_cons_zero, List.set_cons_succ])
  refine wpAnyH_take (i := 51) (oi := { dst := some 128, op := Op.move (Operand.tmp 12), type := 24, pos := "laws.go:649", after := #[{ on := 48, ground := Ground.guard }], guard := some (48, false) }) (v := ?_) rfl (by kernel_rfl) (by kernel_rfl) (by kernel_rfl) (fun _ _ _ h => h) (Or.inl ⟨by rfl, ?_⟩) (by assumption) ?_
  rotate_left
  · intro w' hSw; (try dsimp only at hSw); first | (go_simp; done) | (go_simp; with_reducible rfl)
  (try simp only [Act.put, List.setIfInBounds_toArray, List.set_cons_zero, List.set_cons_succ])
  refine wpAnyH_ready (rs := [50]) (by kernel_rfl) (by simp) ?_
  refine AllReadyH.cons (o := { dst := some 127, op := Op.call { callee := Callee.value (Operand.func 22), args := #[Operand.tmp 126], argTypes := #[24] }, type := 4, pos := "laws.go:649", after := #[{ on := 49, ground := Ground.data }, { on := 48, ground := Ground.chain }, { on := 48, ground := Ground.guard }], guard := some (48, false) }) rfl (fun K hK => ?_) AllReadyH.nil
  go_simp
  refine (iVkV q3 HQ3.out (H_p.out.on BB.out) HKp.out).mono ?_
  rintro e wn10 ⟨rfl, hb⟩
  replace R_i := Lib.hid (R_i.out.on hb)
  replace R_j := Lib.hid (R_j.out.on hb)
  replace BB := Lib.hid (BB.out.trans (hb.mono BB.out.size))
  clear hb
  (try go_wp2_with fail)
  clear hHeld
  refine hK.out _ _ ?_ (fun hHeld => ?_)
  · (try dsimp only); exact ⟨kc K0_x.out BB.out, kc K1_x.out BB.out, kc K2_x.out BB.out, kc K3_x.out BB.out, kc K4_x.out BB.out, kc K0_y.out BB.out, kc K1_y.out BB.out, kc K2_y.out BB.out, kc K3_y.out BB.out, kc K4_y.out BB.out, kc K0_q.out BB.out, kc K1_q.out BB.out, kc K2_q.out BB.out, kc K3_q.out BB.out, kc K4_q.out BB.out, kc K0_m.out BB.out⟩
  clear hK K
  (try simp only [Act.put, List.setIfInBounds_toArray, List.set_cons_zero, List.set_cons_succ])
  refine wpAnyH_ready (rs := [52]) (by kernel_rfl) (by simp) ?_
  refine AllReadyH.cons (o := { dst := some 129, op := Op.call { callee := Callee.value (Operand.func 23), args := #[Operand.tmp 128], argTypes := #[24] }, type := 4, pos := "laws.go:649", after := #[{ on := 51, ground := Ground.data }, { on := 50, ground := Ground.chain }, { on := 48, ground := Ground.guard }], guard := some (48, false) }) rfl (fun K hK => ?_) AllReadyH.nil
  go_simp
  refine (sVkV q3 HQ3.out (H_p.out.on BB.out) HKp.out).mono ?_
  rintro e wn11 ⟨rfl, hb⟩
  replace R_i := Lib.hid (R_i.out.on hb)
  replace R_j := Lib.hid (R_j.out.on hb)
  replace BB := Lib.hid (BB.out.trans (hb.mono BB.out.size))
  clear hb
  (try go_wp2_with fail)
  clear hHeld
  refine hK.out _ _ ?_ (fun hHeld => ?_)
  · (try dsimp only); exact ⟨kc K0_x.out BB.out, kc K1_x.out BB.out, kc K2_x.out BB.out, kc K3_x.out BB.out, kc K4_x.out BB.out, kc K0_y.out BB.out, kc K1_y.out BB.out, kc K2_y.out BB.out, kc K3_y.out BB.out, kc K4_y.out BB.out, kc K0_q.out BB.out, kc K1_q.out BB.out, kc K2_q.out BB.out, kc K3_q.out BB.out, kc K4_q.out BB.out, kc K0_m.out BB.out⟩
  clear hK K
  (try simp only [Act.put, List.setIfInBounds_toArray, List.set_cons_zero, List.set_cons_succ])
  refine wpAnyH_take (i := 53) (oi := { dst := some 130, op := Op.binOp BinOp.neq 4 (Operand.tmp 127) (Operand.tmp 129) 4, type := 4, pos := "laws.go:649", after := #[{ on := 50, ground := Ground.data }, { on := 52, ground := Ground.data }, { on := 48, ground := Ground.guard }], guard := some (48, false) }) (v := ?_) rfl (by kernel_rfl) (by kernel_rfl) (by kernel_rfl) (fun _ _ _ h => h) (Or.inl ⟨by rfl, ?_⟩) (by assumption) ?_
  rotate_left
  · intro w' hSw; (try dsimp only at hSw); first | (go_simp; done) | (go_simp; with_reducible rfl)
  (try simp only [Act.put, List.setIfInBounds_toArray, List.set_cons_zero, List.set_cons_succ])
  refine wpAnyH_take (i := 54) (oi := { dst := some 131, op := Op.pick (Operand.tmp 125) (Operand.const (Value.bool true)) (Operand.tmp 130), type := 4, pos := "laws.go:649", after := #[{ on := 48, ground := Ground.data }, { on := 53, ground := Ground.data }], guard := none }) (v := ?_) rfl (by kernel_rfl) (by kernel_rfl) (by kernel_rfl) (fun _ _ _ h => h) (Or.inl ⟨by rfl, ?_⟩) (by assumption) ?_
  rotate_left
  · intro w' hSw; (try dsimp only at hSw); first | (go_simp; done) | (go_simp; with_reducible rfl)
  (try simp only [Act.put, List.setIfInBounds_toArray, List.set_cons_zero, List.set_cons_succ])
  refine wpAnyH_take (i := 55) (oi := { dst := some 132, op := Op.move (Operand.tmp 131), type := 4, pos := "laws.go:649", after := #[{ on := 54, ground := Ground.data }, { on := 52, ground := Ground.chain }], guard := none }) (v := ?_) rfl (by kernel_rfl) (by kernel_rfl) (by kernel_rfl) (fun _ _ _ h => h) (Or.inl ⟨by rfl, ?_⟩) (by assumption) ?_
  rotate_left
  · intro w' hSw; (try dsimp only at hSw); first | (go_simp; done) | (go_simp; with_reducible rfl)
  (try simp only [Act.put, List.setIfInBounds_toArray, List.set_cons_zero, List.set_cons_succ])
  refine wpAnyH_take (i := 56) (oi := { dst := some 133, op := Op.move (Operand.tmp 12), type := 24, pos := "laws.go:649", after := #[{ on := 55, ground := Ground.guard }], guard := some (55, false) }) (v := ?_) rfl (by kernel_rfl) (by kernel_rfl) (by kernel_rfl) (fun _ _ _ h => h) (Or.inl ⟨by rfl, ?_⟩) (by assumption) ?_
  rotate_left
  · intro w' hSw; (try dsimp only at hSw); first | (go_simp; done) | (go_simp; with_reducible rfl)
  (try simp only [Act.put, List.setIfInBounds_toArray, List.set_cons_zero, List.set_cons_succ])
  refine wpAnyH_take (i := 58) (oi := { dst := some 135, op := Op.move (Operand.tmp 12), type := 24, pos := "laws.go:649", after := #[{ on := 55, ground := Ground.guard }], guard := some (55, false) }) (v := ?_) rfl (by kernel_rfl) (by kernel_rfl) (by kernel_rfl) (fun _ _ _ h => h) (Or.inl ⟨by rfl, ?_⟩) (by assumption) ?_
  rotate_left
  · intro w' hSw; (try dsimp only at hSw); first | (go_simp; done) | (go_simp; with_reducible rfl)
  (try simp only [Act.put, List.setIfInBounds_toArray, List.set_cons_zero, List.set_cons_succ])
  refine wpAnyH_ready (rs := [57]) (by kernel_rfl) (by simp) ?_
  refine AllReadyH.cons (o := { dst := some 134, op := Op.call { callee := Callee.value (Operand.func 24), args := #[Operand.tmp 133], argTypes := #[24] }, type := 9, pos := "laws.go:649", after := #[{ on := 56, ground := Ground.data }, { on := 55, ground := Ground.chain }, { on := 55, ground := Ground.guard }], guard := some (55, false) }) rfl (fun K hK => ?_) AllReadyH.nil
  go_simp
  refine (iFkV q4 HQ4.out (H_p.out.on BB.out) HKp.out).mono ?_
  rintro e wn12 ⟨rfl, hb⟩
  replace R_i := Lib.hid (R_i.out.on hb)
  replace R_j := Lib.hid (R_j.out.on hb)
  replace BB := Lib.hid (BB.out.trans (hb.mono BB.out.size))
  clear hb
  (try go_wp2_with fail)
  clear hHeld
  refine hK.out _ _ ?_ (fun hHeld => ?_)
  · (try dsimp only); exact ⟨kc K0_x.out BB.out, kc K1_x.out BB.out, kc K2_x.out BB.out, kc K3_x.out BB.out, kc K4_x.out BB.out, kc K0_y.out BB.out, kc K1_y.out BB.out, kc K2_y.out BB.out, kc K3_y.out BB.out, kc K4_y.out BB.out, kc K0_q.out BB.out, kc K1_q.out BB.out, kc K2_q.out BB.out, kc K3_q.out BB.out, kc K4_q.out BB.out, kc K0_m.out BB.out⟩
  clear hK K
  (try simp only [Act.put, List.setIfInBounds_toArray, List.set_cons_zero, List.set_cons_succ])
  refine wpAnyH_ready (rs := [59]) (by kernel_rfl) (by simp) ?_
  refine AllReadyH.cons (o := { dst := some 136, op := Op.call { callee := Callee.value (Operand.func 25), args := #[Operand.tmp 135], argTypes := #[24] }, type := 9, pos := "laws.go:649", after := #[{ on := 58, ground := Ground.data }, { on := 57, ground := Ground.chain }, { on := 55, ground := Ground.guard }], guard := some (55, false) }) rfl (fun K hK => ?_) AllReadyH.nil
  go_simp
  refine (sFkV q4 HQ4.out (H_p.out.on BB.out) HKp.out).mono ?_
  rintro e wn13 ⟨rfl, hb⟩
  replace R_i := Lib.hid (R_i.out.on hb)
  replace R_j := Lib.hid (R_j.out.on hb)
  replace BB := Lib.hid (BB.out.trans (hb.mono BB.out.size))
  clear hb
  (try go_wp2_with fail)
  clear hHeld
  refine hK.out _ _ ?_ (fun hHeld => ?_)
  · (try dsimp only); exact ⟨kc K0_x.out BB.out, kc K1_x.out BB.out, kc K2_x.out BB.out, kc K3_x.out BB.out, kc K4_x.out BB.out, kc K0_y.out BB.out, kc K1_y.out BB.out, kc K2_y.out BB.out, kc K3_y.out BB.out, kc K4_y.out BB.out, kc K0_q.out BB.out, kc K1_q.out BB.out, kc K2_q.out BB.out, kc K3_q.out BB.out, kc K4_q.out BB.out, kc K0_m.out BB.out⟩
  clear hK K
  (try simp only [Act.put, List.setIfInBounds_toArray, List.set_cons_zero, List.set_cons_succ])
  refine wpAnyH_take (i := 60) (oi := { dst := some 137, op := Op.binOp BinOp.neq 9 (Operand.tmp 134) (Operand.tmp 136) 9, type := 4, pos := "laws.go:649", after := #[{ on := 57, ground := Ground.data }, { on := 59, ground := Ground.data }, { on := 55, ground := Ground.guard }], guard := some (55, false) }) (v := ?_) rfl (by kernel_rfl) (by kernel_rfl) (by kernel_rfl) (fun _ _ _ h => h) (Or.inl ⟨by rfl, ?_⟩) (by assumption) ?_
  rotate_left
  · intro w' hSw; (try dsimp only at hSw); first | (go_simp; done) | (go_simp; with_reducible rfl)
  (try simp only [Act.put, List.setIfInBounds_toArray, List.set_cons_zero, List.set_cons_succ])
  refine wpAnyH_take (i := 61) (oi := { dst := some 138, op := Op.pick (Operand.tmp 132) (Operand.const (Value.bool true)) (Operand.tmp 137), type := 4, pos := "laws.go:649", after := #[{ on := 55, ground := Ground.data }, { on := 60, ground := Ground.data }], guard := none }) (v := ?_) rfl (by kernel_rfl) (by kernel_rfl) (by kernel_rfl) (fun _ _ _ h => h) (Or.inl ⟨by rfl, ?_⟩) (by assumption) ?_
  rotate_left
  · intro w' hSw; (try dsimp only at hSw); first | (go_simp; done) | (go_simp; with_reducible rfl)
  (try simp only [Act.put, List.setIfInBounds_toArray, List.set_cons_zero, List.set_cons_succ])
  refine wpAnyH_done (by kernel_rfl) ?_ _
  exact NoPanic.normal (HQ.out _ _ _ _ _ _ _ _ _ _ _ _ _ _ _ _ _ _ _ _ _ _ _ _ _ _ _ _ _ _ _ _ _ _ _ _ _ _ _ _ _ _ _ _ _ _ _ _ _ _ _ _ _ _ _ _ _ _ _ _ _  _  BB.out)

end Go.Proofs.YtnblopilgfdjkaaGreat.Row.Ring
