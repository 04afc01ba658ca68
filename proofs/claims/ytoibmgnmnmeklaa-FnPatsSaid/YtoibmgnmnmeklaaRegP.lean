/- A great region of a drawn law: whatever order is drawn, its last value is false. No conditions. -/
import Derived.WalkKit
import Derived.Deep.RegionHeld3
import Derived.Test.YtoibmgnmnmeklaaPatTop
namespace Go.Proofs.Ytoibmgnmnmeklaa.Row
open Go.ChangeShapes Go.WideShapes Go.ChangeAt Go.RowKit Go.Instr
set_option linter.unusedVariables false
set_option maxRecDepth 100000

set_option maxRecDepth 100000 in
set_option maxHeartbeats 40000000 in
theorem reg14 {Q : Exit → Act → World → Prop} {v0 v1 v2 v3 v4 v5 v12 v18 v25 v26 v27 v28 v29 v30 v31 v32 v33 v34 v35 v36 v37 v38 v39 v40 v41 v42 v43 v44 v45 v46 v47 v48 v49 v50 v51 v52 v53 v54 v55 v56 v57 v58 v59 v60 v61 v62 v63 v64 v65 v66 v67 v68 v69 v70 v71 v72 v73 v74 v75 v76 v77 v78 v79 v80 v81 v82 v83 v84 v85 v86 v87 v88 v89 v90 v91 v92 v93 v94 v95 v96 v97 v98 v99 v100 v101 v102 v103 v104 v105 v106 v107 v108 v109 v110 v111 v112 v113 v114 v115 v116 v117 v118 v119 v120 v121 v122 v123 v124 v125 v126 v127 v128 v129 v130 v131 v132 v133 v134 v135 v136 v137 v138 v139 v140 v141 v142 v143 v144 v145 v146 v147 v148 v149 v150 v151 v152 v153 v154 v155 v156 v157 v158 v159 v160 v161 v162 v163 v164 v165 v166 v167 v168 v169 v170 v171 v172 v173 v174 v175 v176 v177 v178 v179 v180 v181 v182 v183 v184 v185 v186 v187 v188 v189 v190 v191 : Value} {w : World} {bq bm bx by_ bu bv bf : Nat} {ok may good : Bool} {k : ByteArray} {x_q : Option Addr} {n_q c_q : Nat} {x_m : Option Addr} {n_m c_m : Nat} {x_x : Option Addr} {n_x c_x : Nat} {x_y : Option Addr} {n_y c_y : Nat} {x_u : Option Addr} {n_u c_u : Nat} {x_v : Option Addr} {n_v c_v : Nat} {x_f : Option Addr} {n_f c_f : Nat} {x_b : Option Addr} {n_b c_b : Nat} {x_c : Option Addr} {n_c c_c : Nat} {x_r : Option Addr} {n_r c_r : Nat} {mq mm mx mu mf : List ByteArray} {kb kr : List (ByteArray × ByteArray)} (C_q : Hid (Ret.Box w bq (.slice x_q n_q c_q) 26)) (H_q : Hid (Holds Value.string w (.slice x_q n_q c_q) mq)) (C_m : Hid (Ret.Box w bm (.slice x_m n_m c_m) 27)) (H_m : Hid (Holds Value.string w (.slice x_m n_m c_m) mm)) (C_x : Hid (Ret.Box w bx (.slice x_x n_x c_x) 26)) (H_x : Hid (Holds Value.string w (.slice x_x n_x c_x) mx)) (C_y : Hid (Ret.Box w by_ (.slice x_y n_y c_y) 26)) (H_y : Hid (Holds Value.string w (.slice x_y n_y c_y) mx)) (C_u : Hid (Ret.Box w bu (.slice x_u n_u c_u) 27)) (H_u : Hid (Holds Value.string w (.slice x_u n_u c_u) mu)) (C_v : Hid (Ret.Box w bv (.slice x_v n_v c_v) 27)) (H_v : Hid (Holds Value.string w (.slice x_v n_v c_v) mu)) (C_f : Hid (Ret.Box w bf (.slice x_f n_f c_f) 26)) (H_f : Hid (Holds Value.string w (.slice x_f n_f c_f) mf)) (H_b : Hid (HoldsK encBd 2 w (.slice x_b n_b c_b) kb)) (H_c : Hid (HoldsK encBd 2 w (.slice x_c n_c c_c) kb)) (H_r : Hid (HoldsK encBd 2 w (.slice x_r n_r c_r) kr))
    (lq : bulk mq ≤ 1000000) (lm : bulk mm ≤ 10000000) (lf : bulk mf ≤ 1000000) (lx : mx.length ≤ 1000) (lu : mu.length ≤ 1000) (lb : kb.length ≤ 100000) (lr : kr.length ≤ 100000)
    (hQ : ∀ (u88 u89 u90 u91 u92 u93 u94 u95 u96 u97 u98 u99 u100 u101 u102 u103 u104 u105 u106 u107 u108 u109 u110 u111 u112 u113 u114 u115 u116 u117 u118 u119 u120 u121 u122 u123 u124 u125 u126 u127 u128 u129 u130 u131 u132 u133 u134 u135 u136 u137 u138 u139 u140 u141 u142 u143 u144 u145 u146 u147 u148 u149 u150 u151 : Value) (wx : World), Below w.heap.size w wx → Q .normal ⟨#[v0, v1, v2, v3, v4, v5, .slice x_b n_b c_b, .bool ok, .slice x_c n_c c_c, .bool ok, .pointer (some ⟨bq, 0, none⟩), .pointer (some ⟨bm, 0, none⟩), v12, .pointer (some ⟨bx, 0, none⟩), .bool may, .pointer (some ⟨by_, 0, none⟩), .bool may, .pointer (some ⟨bf, 0, none⟩), v18, .pointer (some ⟨bu, 0, none⟩), .bool good, .pointer (some ⟨bv, 0, none⟩), .bool good, .slice x_r n_r c_r, .string k, v25, v26, v27, v28, v29, v30, v31, v32, v33, v34, v35, v36, v37, v38, v39, v40, v41, v42, v43, v44, v45, v46, v47, v48, v49, v50, v51, v52, v53, v54, v55, v56, v57, v58, v59, v60, v61, v62, v63, v64, v65, v66, v67, v68, v69, v70, v71, v72, v73, v74, v75, v76, v77, v78, v79, v80, v81, v82, v83, v84, v85, v86, v87, u88, u89, u90, u91, u92, u93, u94, u95, u96, u97, u98, u99, u100, u101, u102, u103, u104, u105, u106, u107, u108, u109, u110, u111, u112, u113, u114, u115, u116, u117, u118, u119, u120, u121, u122, u123, u124, u125, u126, u127, u128, u129, u130, u131, u132, u133, u134, u135, u136, u137, u138, u139, u140, u141, u142, u143, u144, u145, u146, u147, u148, u149, u150, u151, .bool false, v153, v154, v155, v156, v157, v158, v159, v160, v161, v162, v163, v164, v165, v166, v167, v168, v169, v170, v171, v172, v173, v174, v175, v176, v177, v178, v179, v180, v181, v182, v183, v184, v185, v186, v187, v188, v189, v190, v191], []⟩ wx) :
    (Code.region 14 #[{ dst := some 88, op := Op.move (Operand.tmp 6), type := 28, pos := "laws.go:518", after := #[], guard := none },
      { dst := some 89, op := Op.move (Operand.tmp 8), type := 28, pos := "laws.go:518", after := #[], guard := none },
      { dst := some 90, op := Op.call { callee := Callee.value (Operand.func 23), args := #[Operand.tmp 88, Operand.tmp 89], argTypes := #[28, 28] }, type := 4, pos := "laws.go:518", after := #[{ on := 0, ground := Ground.data }, { on := 1, ground := Ground.data }], guard := none },
      { dst := some 91, op := Op.unOp UnOp.not 4 (Operand.tmp 90), type := 4, pos := "laws.go:518", after := #[{ on := 2, ground := Ground.data }], guard := none },
      { dst := some 92, op := Op.move (Operand.tmp 91), type := 4, pos := "laws.go:518", after := #[{ on := 3, ground := Ground.data }, { on := 2, ground := Ground.chain }], guard := none },
      { dst := some 93, op := Op.move (Operand.tmp 7), type := 4, pos := "laws.go:518", after := #[{ on := 4, ground := Ground.guard }], guard := some (4, false) },
      { dst := some 94, op := Op.move (Operand.tmp 9), type := 4, pos := "laws.go:518", after := #[{ on := 4, ground := Ground.guard }], guard := some (4, false) },
      { dst := some 95, op := Op.binOp BinOp.neq 4 (Operand.tmp 93) (Operand.tmp 94) 4, type := 4, pos := "laws.go:518", after := #[{ on := 5, ground := Ground.data }, { on := 6, ground := Ground.data }, { on := 4, ground := Ground.guard }], guard := some (4, false) },
      { dst := some 96, op := Op.pick (Operand.tmp 92) (Operand.const (Value.bool true)) (Operand.tmp 95), type := 4, pos := "laws.go:518", after := #[{ on := 4, ground := Ground.data }, { on := 7, ground := Ground.data }], guard := none },
      { dst := some 97, op := Op.move (Operand.tmp 96), type := 4, pos := "laws.go:518", after := #[{ on := 8, ground := Ground.data }, { on := 4, ground := Ground.chain }], guard := none },
      { dst := some 98, op := Op.load 26 (Operand.tmp 10), type := 26, pos := "laws.go:518", after := #[{ on := 9, ground := Ground.guard }], guard := some (9, false) },
      { dst := some 99, op := Op.load 27 (Operand.tmp 11), type := 27, pos := "laws.go:518", after := #[{ on := 9, ground := Ground.guard }], guard := some (9, false) },
      { dst := some 100, op := Op.call { callee := Callee.value (Operand.func 24), args := #[Operand.tmp 98, Operand.tmp 99], argTypes := #[26, 27] }, type := 4, pos := "laws.go:518", after := #[{ on := 10, ground := Ground.data }, { on := 11, ground := Ground.data }, { on := 9, ground := Ground.chain }, { on := 9, ground := Ground.guard }], guard := some (9, false) },
      { dst := some 101, op := Op.load 26 (Operand.tmp 10), type := 26, pos := "laws.go:518", after := #[{ on := 9, ground := Ground.guard }], guard := some (9, false) },
      { dst := some 102, op := Op.load 27 (Operand.tmp 11), type := 27, pos := "laws.go:518", after := #[{ on := 9, ground := Ground.guard }], guard := some (9, false) },
      { dst := some 103, op := Op.call { callee := Callee.value (Operand.func 25), args := #[Operand.tmp 101, Operand.tmp 102], argTypes := #[26, 27] }, type := 4, pos := "laws.go:518", after := #[{ on := 13, ground := Ground.data }, { on := 14, ground := Ground.data }, { on := 12, ground := Ground.chain }, { on := 9, ground := Ground.guard }], guard := some (9, false) },
      { dst := some 104, op := Op.binOp BinOp.neq 4 (Operand.tmp 100) (Operand.tmp 103) 4, type := 4, pos := "laws.go:518", after := #[{ on := 12, ground := Ground.data }, { on := 15, ground := Ground.data }, { on := 9, ground := Ground.guard }], guard := some (9, false) },
      { dst := some 105, op := Op.pick (Operand.tmp 97) (Operand.const (Value.bool true)) (Operand.tmp 104), type := 4, pos := "laws.go:518", after := #[{ on := 9, ground := Ground.data }, { on := 16, ground := Ground.data }], guard := none },
      { dst := some 106, op := Op.move (Operand.tmp 105), type := 4, pos := "laws.go:518", after := #[{ on := 17, ground := Ground.data }, { on := 15, ground := Ground.chain }], guard := none },
      { dst := some 107, op := Op.fieldAddr 26 (Operand.tmp 13) 0, type := 0, pos := "laws.go:518", after := #[{ on := 18, ground := Ground.guard }], guard := some (18, false) },
      { dst := some 108, op := Op.load 24 (Operand.tmp 107), type := 24, pos := "laws.go:518", after := #[{ on := 19, ground := Ground.data }, { on := 18, ground := Ground.guard }], guard := some (18, false) },
      { dst := some 109, op := Op.fieldAddr 26 (Operand.tmp 15) 0, type := 0, pos := "laws.go:518", after := #[{ on := 18, ground := Ground.guard }], guard := some (18, false) },
      { dst := some 110, op := Op.load 24 (Operand.tmp 109), type := 24, pos := "laws.go:518", after := #[{ on := 21, ground := Ground.data }, { on := 18, ground := Ground.guard }], guard := some (18, false) },
      { dst := some 111, op := Op.call { callee := Callee.value (Operand.func 26), args := #[Operand.tmp 108, Operand.tmp 110], argTypes := #[24, 24] }, type := 4, pos := "laws.go:518", after := #[{ on := 20, ground := Ground.data }, { on := 22, ground := Ground.data }, { on := 18, ground := Ground.chain }, { on := 18, ground := Ground.guard }], guard := some (18, false) },
      { dst := some 112, op := Op.unOp UnOp.not 4 (Operand.tmp 111), type := 4, pos := "laws.go:518", after := #[{ on := 23, ground := Ground.data }, { on := 18, ground := Ground.guard }], guard := some (18, false) },
      { dst := some 113, op := Op.pick (Operand.tmp 106) (Operand.const (Value.bool true)) (Operand.tmp 112), type := 4, pos := "laws.go:518", after := #[{ on := 18, ground := Ground.data }, { on := 24, ground := Ground.data }], guard := none },
      { dst := some 114, op := Op.move (Operand.tmp 113), type := 4, pos := "laws.go:518", after := #[{ on := 25, ground := Ground.data }, { on := 23, ground := Ground.chain }], guard := none },
      { dst := some 115, op := Op.move (Operand.tmp 14), type := 4, pos := "laws.go:518", after := #[{ on := 26, ground := Ground.guard }], guard := some (26, false) },
      { dst := some 116, op := Op.move (Operand.tmp 16), type := 4, pos := "laws.go:518", after := #[{ on := 26, ground := Ground.guard }], guard := some (26, false) },
      { dst := some 117, op := Op.binOp BinOp.neq 4 (Operand.tmp 115) (Operand.tmp 116) 4, type := 4, pos := "laws.go:518", after := #[{ on := 27, ground := Ground.data }, { on := 28, ground := Ground.data }, { on := 26, ground := Ground.guard }], guard := some (26, false) },
      { dst := some 118, op := Op.pick (Operand.tmp 114) (Operand.const (Value.bool true)) (Operand.tmp 117), type := 4, pos := "laws.go:518", after := #[{ on := 26, ground := Ground.data }, { on := 29, ground := Ground.data }], guard := none },
      { dst := some 119, op := Op.move (Operand.tmp 118), type := 4, pos := "laws.go:518", after := #[{ on := 30, ground := Ground.data }, { on := 26, ground := Ground.chain }], guard := none },
      { dst := some 120, op := Op.load 27 (Operand.tmp 19), type := 27, pos := "laws.go:518", after := #[{ on := 31, ground := Ground.guard }], guard := some (31, false) },
      { dst := some 121, op := Op.load 27 (Operand.tmp 21), type := 27, pos := "laws.go:518", after := #[{ on := 31, ground := Ground.guard }], guard := some (31, false) },
      { dst := some 122, op := Op.call { callee := Callee.value (Operand.func 27), args := #[Operand.tmp 120, Operand.tmp 121], argTypes := #[27, 27] }, type := 4, pos := "laws.go:518", after := #[{ on := 32, ground := Ground.data }, { on := 33, ground := Ground.data }, { on := 31, ground := Ground.chain }, { on := 31, ground := Ground.guard }], guard := some (31, false) },
      { dst := some 123, op := Op.unOp UnOp.not 4 (Operand.tmp 122), type := 4, pos := "laws.go:518", after := #[{ on := 34, ground := Ground.data }, { on := 31, ground := Ground.guard }], guard := some (31, false) },
      { dst := some 124, op := Op.pick (Operand.tmp 119) (Operand.const (Value.bool true)) (Operand.tmp 123), type := 4, pos := "laws.go:518", after := #[{ on := 31, ground := Ground.data }, { on := 35, ground := Ground.data }], guard := none },
      { dst := some 125, op := Op.move (Operand.tmp 124), type := 4, pos := "laws.go:518", after := #[{ on := 36, ground := Ground.data }, { on := 34, ground := Ground.chain }], guard := none },
      { dst := some 126, op := Op.move (Operand.tmp 20), type := 4, pos := "laws.go:518", after := #[{ on := 37, ground := Ground.guard }], guard := some (37, false) },
      { dst := some 127, op := Op.move (Operand.tmp 22), type := 4, pos := "laws.go:518", after := #[{ on := 37, ground := Ground.guard }], guard := some (37, false) },
      { dst := some 128, op := Op.binOp BinOp.neq 4 (Operand.tmp 126) (Operand.tmp 127) 4, type := 4, pos := "laws.go:518", after := #[{ on := 38, ground := Ground.data }, { on := 39, ground := Ground.data }, { on := 37, ground := Ground.guard }], guard := some (37, false) },
      { dst := some 129, op := Op.pick (Operand.tmp 125) (Operand.const (Value.bool true)) (Operand.tmp 128), type := 4, pos := "laws.go:518", after := #[{ on := 37, ground := Ground.data }, { on := 40, ground := Ground.data }], guard := none },
      { dst := some 130, op := Op.move (Operand.tmp 129), type := 4, pos := "laws.go:518", after := #[{ on := 41, ground := Ground.data }, { on := 37, ground := Ground.chain }], guard := none },
      { dst := some 131, op := Op.move (Operand.tmp 23), type := 28, pos := "laws.go:518", after := #[{ on := 42, ground := Ground.guard }], guard := some (42, false) },
      { dst := some 132, op := Op.move (Operand.tmp 24), type := 9, pos := "laws.go:518", after := #[{ on := 42, ground := Ground.guard }], guard := some (42, false) },
      { dst := some 133, op := Op.call { callee := Callee.value (Operand.func 28), args := #[Operand.tmp 131, Operand.tmp 132], argTypes := #[28, 9] }, type := 9, pos := "laws.go:518", after := #[{ on := 43, ground := Ground.data }, { on := 44, ground := Ground.data }, { on := 42, ground := Ground.chain }, { on := 42, ground := Ground.guard }], guard := some (42, false) },
      { dst := some 134, op := Op.move (Operand.tmp 23), type := 28, pos := "laws.go:518", after := #[{ on := 42, ground := Ground.guard }], guard := some (42, false) },
      { dst := some 135, op := Op.move (Operand.tmp 24), type := 9, pos := "laws.go:518", after := #[{ on := 42, ground := Ground.guard }], guard := some (42, false) },
      { dst := some 136, op := Op.call { callee := Callee.value (Operand.func 29), args := #[Operand.tmp 134, Operand.tmp 135], argTypes := #[28, 9] }, type := 9, pos := "laws.go:518", after := #[{ on := 46, ground := Ground.data }, { on := 47, ground := Ground.data }, { on := 45, ground := Ground.chain }, { on := 42, ground := Ground.guard }], guard := some (42, false) },
      { dst := some 137, op := Op.binOp BinOp.neq 9 (Operand.tmp 133) (Operand.tmp 136) 9, type := 4, pos := "laws.go:518", after := #[{ on := 45, ground := Ground.data }, { on := 48, ground := Ground.data }, { on := 42, ground := Ground.guard }], guard := some (42, false) },
      { dst := some 138, op := Op.pick (Operand.tmp 130) (Operand.const (Value.bool true)) (Operand.tmp 137), type := 4, pos := "laws.go:518", after := #[{ on := 42, ground := Ground.data }, { on := 49, ground := Ground.data }], guard := none },
      { dst := some 139, op := Op.move (Operand.tmp 138), type := 4, pos := "laws.go:518", after := #[{ on := 50, ground := Ground.data }, { on := 48, ground := Ground.chain }], guard := none },
      { dst := some 140, op := Op.load 26 (Operand.tmp 17), type := 26, pos := "laws.go:518", after := #[{ on := 51, ground := Ground.guard }], guard := some (51, false) },
      { dst := some 141, op := Op.call { callee := Callee.value (Operand.func 30), args := #[Operand.tmp 140], argTypes := #[26] }, type := 9, pos := "laws.go:518", after := #[{ on := 52, ground := Ground.data }, { on := 51, ground := Ground.chain }, { on := 51, ground := Ground.guard }], guard := some (51, false) },
      { dst := some 142, op := Op.load 26 (Operand.tmp 17), type := 26, pos := "laws.go:518", after := #[{ on := 51, ground := Ground.guard }], guard := some (51, false) },
      { dst := some 143, op := Op.call { callee := Callee.value (Operand.func 31), args := #[Operand.tmp 142], argTypes := #[26] }, type := 9, pos := "laws.go:518", after := #[{ on := 54, ground := Ground.data }, { on := 53, ground := Ground.chain }, { on := 51, ground := Ground.guard }], guard := some (51, false) },
      { dst := some 144, op := Op.binOp BinOp.neq 9 (Operand.tmp 141) (Operand.tmp 143) 9, type := 4, pos := "laws.go:518", after := #[{ on := 53, ground := Ground.data }, { on := 55, ground := Ground.data }, { on := 51, ground := Ground.guard }], guard := some (51, false) },
      { dst := some 145, op := Op.pick (Operand.tmp 139) (Operand.const (Value.bool true)) (Operand.tmp 144), type := 4, pos := "laws.go:518", after := #[{ on := 51, ground := Ground.data }, { on := 56, ground := Ground.data }], guard := none },
      { dst := some 146, op := Op.move (Operand.tmp 145), type := 4, pos := "laws.go:518", after := #[{ on := 57, ground := Ground.data }, { on := 55, ground := Ground.chain }], guard := none },
      { dst := some 147, op := Op.load 26 (Operand.tmp 17), type := 26, pos := "laws.go:518", after := #[{ on := 58, ground := Ground.guard }], guard := some (58, false) },
      { dst := some 148, op := Op.call { callee := Callee.value (Operand.func 32), args := #[Operand.tmp 147], argTypes := #[26] }, type := 4, pos := "laws.go:518", after := #[{ on := 59, ground := Ground.data }, { on := 58, ground := Ground.chain }, { on := 58, ground := Ground.guard }], guard := some (58, false) },
      { dst := some 149, op := Op.load 26 (Operand.tmp 17), type := 26, pos := "laws.go:518", after := #[{ on := 58, ground := Ground.guard }], guard := some (58, false) },
      { dst := some 150, op := Op.call { callee := Callee.value (Operand.func 33), args := #[Operand.tmp 149], argTypes := #[26] }, type := 4, pos := "laws.go:518", after := #[{ on := 61, ground := Ground.data }, { on := 60, ground := Ground.chain }, { on := 58, ground := Ground.guard }], guard := some (58, false) },
      { dst := some 151, op := Op.binOp BinOp.neq 4 (Operand.tmp 148) (Operand.tmp 150) 4, type := 4, pos := "laws.go:518", after := #[{ on := 60, ground := Ground.data }, { on := 62, ground := Ground.data }, { on := 58, ground := Ground.guard }], guard := some (58, false) },
      { dst := some 152, op := Op.pick (Operand.tmp 146) (Operand.const (Value.bool true)) (Operand.tmp 151), type := 4, pos := "laws.go:518", after := #[{ on := 58, ground := Ground.data }, { on := 63, ground := Ground.data }], guard := none }] true).wp Try.prog Q ⟨#[v0, v1, v2, v3, v4, v5, .slice x_b n_b c_b, .bool ok, .slice x_c n_c c_c, .bool ok, .pointer (some ⟨bq, 0, none⟩), .pointer (some ⟨bm, 0, none⟩), v12, .pointer (some ⟨bx, 0, none⟩), .bool may, .pointer (some ⟨by_, 0, none⟩), .bool may, .pointer (some ⟨bf, 0, none⟩), v18, .pointer (some ⟨bu, 0, none⟩), .bool good, .pointer (some ⟨bv, 0, none⟩), .bool good, .slice x_r n_r c_r, .string k, v25, v26, v27, v28, v29, v30, v31, v32, v33, v34, v35, v36, v37, v38, v39, v40, v41, v42, v43, v44, v45, v46, v47, v48, v49, v50, v51, v52, v53, v54, v55, v56, v57, v58, v59, v60, v61, v62, v63, v64, v65, v66, v67, v68, v69, v70, v71, v72, v73, v74, v75, v76, v77, v78, v79, v80, v81, v82, v83, v84, v85, v86, v87, v88, v89, v90, v91, v92, v93, v94, v95, v96, v97, v98, v99, v100, v101, v102, v103, v104, v105, v106, v107, v108, v109, v110, v111, v112, v113, v114, v115, v116, v117, v118, v119, v120, v121, v122, v123, v124, v125, v126, v127, v128, v129, v130, v131, v132, v133, v134, v135, v136, v137, v138, v139, v140, v141, v142, v143, v144, v145, v146, v147, v148, v149, v150, v151, v152, v153, v154, v155, v156, v157, v158, v159, v160, v161, v162, v163, v164, v165, v166, v167, v168, v169, v170, v171, v172, v173, v174, v175, v176, v177, v178, v179, v180, v181, v182, v183, v184, v185, v186, v187, v188, v189, v190, v191], []⟩ w := by
  have HQ := Lib.hid hQ; clear hQ
  have hdr : Below w.heap.size w w.drew := (Below.refl _ _).drew
  have Cd_q := Lib.hid (C_q.out.on hdr)
  have Cd_m := Lib.hid (C_m.out.on hdr)
  have Cd_x := Lib.hid (C_x.out.on hdr)
  have Cd_y := Lib.hid (C_y.out.on hdr)
  have Cd_u := Lib.hid (C_u.out.on hdr)
  have Cd_v := Lib.hid (C_v.out.on hdr)
  have Cd_f := Lib.hid (C_f.out.on hdr)
  have Hd_q := Lib.hid (H_q.out.on hdr)
  have Hd_m := Lib.hid (H_m.out.on hdr)
  have Hd_x := Lib.hid (H_x.out.on hdr)
  have Hd_y := Lib.hid (H_y.out.on hdr)
  have Hd_u := Lib.hid (H_u.out.on hdr)
  have Hd_v := Lib.hid (H_v.out.on hdr)
  have Hd_f := Lib.hid (H_f.out.on hdr)
  have Hd_b := Lib.hid (H_b.out.on hdr)
  have Hd_c := Lib.hid (H_c.out.on hdr)
  have Hd_r := Lib.hid (H_r.out.on hdr)
  have BB := Lib.hid hdr; clear hdr
  refine wp_region_noPanic ?_
  refine wp_region_held_drew (S := (fun w' => w'.cell? ⟨bq, 0, none⟩ = some (.slice x_q n_q c_q) ∧ w'.cell? ⟨bm, 0, none⟩ = some (.slice x_m n_m c_m) ∧ w'.cell? ⟨bx, 0, none⟩ = some (.slice x_x n_x c_x) ∧ w'.cell? ⟨by_, 0, none⟩ = some (.slice x_y n_y c_y) ∧ w'.cell? ⟨bu, 0, none⟩ = some (.slice x_u n_u c_u) ∧ w'.cell? ⟨bv, 0, none⟩ = some (.slice x_v n_v c_v) ∧ w'.cell? ⟨bf, 0, none⟩ = some (.slice x_f n_f c_f))) (by kernel_rfl) ?_ (fun hHeld => ?_)
  · exact ⟨Cd_q.out.cell, Cd_m.out.cell, Cd_x.out.cell, Cd_y.out.cell, Cd_u.out.cell, Cd_v.out.cell, Cd_f.out.cell⟩
  refine wpAnyH_take (i := 0) (oi := { dst := some 88, op := Op.move (Operand.tmp 6), type := 28, pos := "laws.go:518", after := #[], guard := none }) (v := ?_) rfl (by kernel_rfl) (by kernel_rfl) (by kernel_rfl) (fun _ _ _ h => h) (Or.inl ⟨by rfl, ?_⟩) (by assumption) ?_
  rotate_left
  · intro w' hSw; (try dsimp only at hSw); first | (go_simp; done) | (go_simp; with_reducible rfl)
  (try simp only [Act.put, List.setIfInBounds_toArray, List.set_cons_zero, List.set_cons_succ])
  refine wpAnyH_take (i := 1) (oi := { dst := some 89, op := Op.move (Operand.tmp 8), type := 28, pos := "laws.go:518", after := #[], guard := none }) (v := ?_) rfl (by kernel_rfl) (by kernel_rfl) (by kernel_rfl) (fun _ _ _ h => h) (Or.inl ⟨by rfl, ?_⟩) (by assumption) ?_
  rotate_left
  · intro w' hSw; (try dsimp only at hSw); first | (go_simp; done) | (go_simp; with_reducible rfl)
  (try simp only [Act.put, List.setIfInBounds_toArray, List.set_cons_zero, List.set_cons_succ])
  refine wpAnyH_ready (rs := [2]) (by kernel_rfl) (by simp) ?_
  refine AllReadyH.cons (o := { dst := some 90, op := Op.call { callee := Callee.value (Operand.func 23), args := #[Operand.tmp 88, Operand.tmp 89], argTypes := #[28, 28] }, type := 4, pos := "laws.go:518", after := #[{ on := 0, ground := Ground.data }, { on := 1, ground := Ground.data }], guard := none }) rfl (fun K hK => ?_) AllReadyH.nil
  go_simp
  refine (sameBindsT _ _ kb _ Hd_b.out Hd_c.out (by omega)).mono ?_
  rintro e wx ⟨rfl, hb⟩
  replace Cd_q := Lib.hid (Cd_q.out.on hb)
  replace Cd_m := Lib.hid (Cd_m.out.on hb)
  replace Cd_x := Lib.hid (Cd_x.out.on hb)
  replace Cd_y := Lib.hid (Cd_y.out.on hb)
  replace Cd_u := Lib.hid (Cd_u.out.on hb)
  replace Cd_v := Lib.hid (Cd_v.out.on hb)
  replace Cd_f := Lib.hid (Cd_f.out.on hb)
  replace Hd_q := Lib.hid (Hd_q.out.on hb)
  replace Hd_m := Lib.hid (Hd_m.out.on hb)
  replace Hd_x := Lib.hid (Hd_x.out.on hb)
  replace Hd_y := Lib.hid (Hd_y.out.on hb)
  replace Hd_u := Lib.hid (Hd_u.out.on hb)
  replace Hd_v := Lib.hid (Hd_v.out.on hb)
  replace Hd_f := Lib.hid (Hd_f.out.on hb)
  replace Hd_b := Lib.hid (Hd_b.out.on hb)
  replace Hd_c := Lib.hid (Hd_c.out.on hb)
  replace Hd_r := Lib.hid (Hd_r.out.on hb)
  replace BB := Lib.hid (BB.out.trans (hb.mono BB.out.size)); clear hb
  (try go_wp2_with fail)
  clear hHeld
  refine hK.out _ _ ?_ (fun hHeld => ?_)
  · (try dsimp only); exact ⟨Cd_q.out.cell, Cd_m.out.cell, Cd_x.out.cell, Cd_y.out.cell, Cd_u.out.cell, Cd_v.out.cell, Cd_f.out.cell⟩
  clear hK K
  (try simp only [Act.put, List.setIfInBounds_toArray, List.set_cons_zero, List.set_cons_succ])
  refine wpAnyH_take (i := 3) (oi := { dst := some 91, op := Op.unOp UnOp.not 4 (Operand.tmp 90), type := 4, pos := "laws.go:518", after := #[{ on := 2, ground := Ground.data }], guard := none }) (v := ?_) rfl (by kernel_rfl) (by kernel_rfl) (by kernel_rfl) (fun _ _ _ h => h) (Or.inl ⟨by rfl, ?_⟩) (by assumption) ?_
  rotate_left
  · intro w' hSw; (try dsimp only at hSw); first | (go_simp; done) | (go_simp; with_reducible rfl)
  (try simp only [Act.put, List.setIfInBounds_toArray, List.set_cons_zero, List.set_cons_succ])
  refine wpAnyH_take (i := 4) (oi := { dst := some 92, op := Op.move (Operand.tmp 91), type := 4, pos := "laws.go:518", after := #[{ on := 3, ground := Ground.data }, { on := 2, ground := Ground.chain }], guard := none }) (v := ?_) rfl (by kernel_rfl) (by kernel_rfl) (by kernel_rfl) (fun _ _ _ h => h) (Or.inl ⟨by rfl, ?_⟩) (by assumption) ?_
  rotate_left
  · intro w' hSw; (try dsimp only at hSw); first | (go_simp; done) | (go_simp; with_reducible rfl)
  (try simp only [Act.put, List.setIfInBounds_toArray, List.set_cons_zero, List.set_cons_succ])
  refine wpAnyH_take (i := 5) (oi := { dst := some 93, op := Op.move (Operand.tmp 7), type := 4, pos := "laws.go:518", after := #[{ on := 4, ground := Ground.guard }], guard := some (4, false) }) (v := ?_) rfl (by kernel_rfl) (by kernel_rfl) (by kernel_rfl) (fun _ _ _ h => h) (Or.inl ⟨by rfl, ?_⟩) (by assumption) ?_
  rotate_left
  · intro w' hSw; (try dsimp only at hSw); first | (go_simp; done) | (go_simp; with_reducible rfl)
  (try simp only [Act.put, List.setIfInBounds_toArray, List.set_cons_zero, List.set_cons_succ])
  refine wpAnyH_take (i := 6) (oi := { dst := some 94, op := Op.move (Operand.tmp 9), type := 4, pos := "laws.go:518", after := #[{ on := 4, ground := Ground.guard }], guard := some (4, false) }) (v := ?_) rfl (by kernel_rfl) (by kernel_rfl) (by kernel_rfl) (fun _ _ _ h => h) (Or.inl ⟨by rfl, ?_⟩) (by assumption) ?_
  rotate_left
  · intro w' hSw; (try dsimp only at hSw); first | (go_simp; done) | (go_simp; with_reducible rfl)
  (try simp only [Act.put, List.setIfInBounds_toArray, List.set_cons_zero, List.set_cons_succ])
  refine wpAnyH_take (i := 7) (oi := { dst := some 95, op := Op.binOp BinOp.neq 4 (Operand.tmp 93) (Operand.tmp 94) 4, type := 4, pos := "laws.go:518", after := #[{ on := 5, ground := Ground.data }, { on := 6, ground := Ground.data }, { on := 4, ground := Ground.guard }], guard := some (4, false) }) (v := ?_) rfl (by kernel_rfl) (by kernel_rfl) (by kernel_rfl) (fun _ _ _ h => h) (Or.inl ⟨by rfl, ?_⟩) (by assumption) ?_
  rotate_left
  · intro w' hSw; (try dsimp only at hSw); first | (go_simp; done) | (go_simp; with_reducible rfl)
  (try simp only [Act.put, List.setIfInBounds_toArray, List.set_cons_zero, List.set_cons_succ])
  refine wpAnyH_take (i := 8) (oi := { dst := some 96, op := Op.pick (Operand.tmp 92) (Operand.const (Value.bool true)) (Operand.tmp 95), type := 4, pos := "laws.go:518", after := #[{ on := 4, ground := Ground.data }, { on := 7, ground := Ground.data }], guard := none }) (v := ?_) rfl (by kernel_rfl) (by kernel_rfl) (by kernel_rfl) (fun _ _ _ h => h) (Or.inl ⟨by rfl, ?_⟩) (by assumption) ?_
  rotate_left
  · intro w' hSw; (try dsimp only at hSw); first | (go_simp; done) | (go_simp; with_reducible rfl)
  (try simp only [Act.put, List.setIfInBounds_toArray, List.set_cons_zero, List.set_cons_succ])
  refine wpAnyH_take (i := 9) (oi := { dst := some 97, op := Op.move (Operand.tmp 96), type := 4, pos := "laws.go:518", after := #[{ on := 8, ground := Ground.data }, { on := 4, ground := Ground.chain }], guard := none }) (v := ?_) rfl (by kernel_rfl) (by kernel_rfl) (by kernel_rfl) (fun _ _ _ h => h) (Or.inl ⟨by rfl, ?_⟩) (by assumption) ?_
  rotate_left
  · intro w' hSw; (try dsimp only at hSw); first | (go_simp; done) | (go_simp; with_reducible rfl)
  (try simp only [Act.put, List.setIfInBounds_toArray, List.set_cons_zero, List.set_cons_succ])
  refine wpAnyH_take (i := 10) (oi := { dst := some 98, op := Op.load 26 (Operand.tmp 10), type := 26, pos := "laws.go:518", after := #[{ on := 9, ground := Ground.guard }], guard := some (9, false) }) (v := ?_) rfl (by kernel_rfl) (by kernel_rfl) (by kernel_rfl) (fun _ _ _ h => h) (Or.inl ⟨by rfl, ?_⟩) (by assumption) ?_
  rotate_left
  · intro w' hSw; (try dsimp only at hSw); first | (go_simp; done) | (go_simp; with_reducible rfl)
  (try simp only [Act.put, List.setIfInBounds_toArray, List.set_cons_zero, List.set_cons_succ])
  refine wpAnyH_take (i := 11) (oi := { dst := some 99, op := Op.load 27 (Operand.tmp 11), type := 27, pos := "laws.go:518", after := #[{ on := 9, ground := Ground.guard }], guard := some (9, false) }) (v := ?_) rfl (by kernel_rfl) (by kernel_rfl) (by kernel_rfl) (fun _ _ _ h => h) (Or.inl ⟨by rfl, ?_⟩) (by assumption) ?_
  rotate_left
  · intro w' hSw; (try dsimp only at hSw); first | (go_simp; done) | (go_simp; with_reducible rfl)
  (try simp only [Act.put, List.setIfInBounds_toArray, List.set_cons_zero, List.set_cons_succ])
  refine wpAnyH_take (i := 13) (oi := { dst := some 101, op := Op.load 26 (Operand.tmp 10), type := 26, pos := "laws.go:518", after := #[{ on := 9, ground := Ground.guard }], guard := some (9, false) }) (v := ?_) rfl (by kernel_rfl) (by kernel_rfl) (by kernel_rfl) (fun _ _ _ h => h) (Or.inl ⟨by rfl, ?_⟩) (by assumption) ?_
  rotate_left
  · intro w' hSw; (try dsimp only at hSw); first | (go_simp; done) | (go_simp; with_reducible rfl)
  (try simp only [Act.put, List.setIfInBounds_toArray, List.set_cons_zero, List.set_cons_succ])
  refine wpAnyH_take (i := 14) (oi := { dst := some 102, op := Op.load 27 (Operand.tmp 11), type := 27, pos := "laws.go:518", after := #[{ on := 9, ground := Ground.guard }], guard := some (9, false) }) (v := ?_) rfl (by kernel_rfl) (by kernel_rfl) (by kernel_rfl) (fun _ _ _ h => h) (Or.inl ⟨by rfl, ?_⟩) (by assumption) ?_
  rotate_left
  · intro w' hSw; (try dsimp only at hSw); first | (go_simp; done) | (go_simp; with_reducible rfl)
  (try simp only [Act.put, List.setIfInBounds_toArray, List.set_cons_zero, List.set_cons_succ])
  refine wpAnyH_ready (rs := [12]) (by kernel_rfl) (by simp) ?_
  refine AllReadyH.cons (o := { dst := some 100, op := Op.call { callee := Callee.value (Operand.func 24), args := #[Operand.tmp 98, Operand.tmp 99], argTypes := #[26, 27] }, type := 4, pos := "laws.go:518", after := #[{ on := 10, ground := Ground.data }, { on := 11, ground := Ground.data }, { on := 9, ground := Ground.chain }, { on := 9, ground := Ground.guard }], guard := some (9, false) }) rfl (fun K hK => ?_) AllReadyH.nil
  go_simp
  refine (implMatchesX _ _ mq mm _ Hd_q.out Hd_m.out (by omega) (by omega)).mono ?_
  rintro e wx ⟨rfl, hb⟩
  replace Cd_q := Lib.hid (Cd_q.out.on hb)
  replace Cd_m := Lib.hid (Cd_m.out.on hb)
  replace Cd_x := Lib.hid (Cd_x.out.on hb)
  replace Cd_y := Lib.hid (Cd_y.out.on hb)
  replace Cd_u := Lib.hid (Cd_u.out.on hb)
  replace Cd_v := Lib.hid (Cd_v.out.on hb)
  replace Cd_f := Lib.hid (Cd_f.out.on hb)
  replace Hd_q := Lib.hid (Hd_q.out.on hb)
  replace Hd_m := Lib.hid (Hd_m.out.on hb)
  replace Hd_x := Lib.hid (Hd_x.out.on hb)
  replace Hd_y := Lib.hid (Hd_y.out.on hb)
  replace Hd_u := Lib.hid (Hd_u.out.on hb)
  replace Hd_v := Lib.hid (Hd_v.out.on hb)
  replace Hd_f := Lib.hid (Hd_f.out.on hb)
  replace Hd_b := Lib.hid (Hd_b.out.on hb)
  replace Hd_c := Lib.hid (Hd_c.out.on hb)
  replace Hd_r := Lib.hid (Hd_r.out.on hb)
  replace BB := Lib.hid (BB.out.trans (hb.mono BB.out.size)); clear hb
  (try go_wp2_with fail)
  clear hHeld
  refine hK.out _ _ ?_ (fun hHeld => ?_)
  · (try dsimp only); exact ⟨Cd_q.out.cell, Cd_m.out.cell, Cd_x.out.cell, Cd_y.out.cell, Cd_u.out.cell, Cd_v.out.cell, Cd_f.out.cell⟩
  clear hK K
  (try simp only [Act.put, List.setIfInBounds_toArray, List.set_cons_zero, List.set_cons_succ])
  refine wpAnyH_ready (rs := [15]) (by kernel_rfl) (by simp) ?_
  refine AllReadyH.cons (o := { dst := some 103, op := Op.call { callee := Callee.value (Operand.func 25), args := #[Operand.tmp 101, Operand.tmp 102], argTypes := #[26, 27] }, type := 4, pos := "laws.go:518", after := #[{ on := 13, ground := Ground.data }, { on := 14, ground := Ground.data }, { on := 12, ground := Ground.chain }, { on := 9, ground := Ground.guard }], guard := some (9, false) }) rfl (fun K hK => ?_) AllReadyH.nil
  go_simp
  refine (specMatchesX _ _ mq mm _ Hd_q.out Hd_m.out (by omega) (by omega)).mono ?_
  rintro e wx ⟨rfl, hb⟩
  replace Cd_q := Lib.hid (Cd_q.out.on hb)
  replace Cd_m := Lib.hid (Cd_m.out.on hb)
  replace Cd_x := Lib.hid (Cd_x.out.on hb)
  replace Cd_y := Lib.hid (Cd_y.out.on hb)
  replace Cd_u := Lib.hid (Cd_u.out.on hb)
  replace Cd_v := Lib.hid (Cd_v.out.on hb)
  replace Cd_f := Lib.hid (Cd_f.out.on hb)
  replace Hd_q := Lib.hid (Hd_q.out.on hb)
  replace Hd_m := Lib.hid (Hd_m.out.on hb)
  replace Hd_x := Lib.hid (Hd_x.out.on hb)
  replace Hd_y := Lib.hid (Hd_y.out.on hb)
  replace Hd_u := Lib.hid (Hd_u.out.on hb)
  replace Hd_v := Lib.hid (Hd_v.out.on hb)
  replace Hd_f := Lib.hid (Hd_f.out.on hb)
  replace Hd_b := Lib.hid (Hd_b.out.on hb)
  replace Hd_c := Lib.hid (Hd_c.out.on hb)
  replace Hd_r := Lib.hid (Hd_r.out.on hb)
  replace BB := Lib.hid (BB.out.trans (hb.mono BB.out.size)); clear hb
  (try go_wp2_with fail)
  clear hHeld
  refine hK.out _ _ ?_ (fun hHeld => ?_)
  · (try dsimp only); exact ⟨Cd_q.out.cell, Cd_m.out.cell, Cd_x.out.cell, Cd_y.out.cell, Cd_u.out.cell, Cd_v.out.cell, Cd_f.out.cell⟩
  clear hK K
  (try simp only [Act.put, List.setIfInBounds_toArray, List.set_cons_zero, List.set_cons_succ])
  refine wpAnyH_take (i := 16) (oi := { dst := some 104, op := Op.binOp BinOp.neq 4 (Operand.tmp 100) (Operand.tmp 103) 4, type := 4, pos := "laws.go:518", after := #[{ on := 12, ground := Ground.data }, { on := 15, ground := Ground.data }, { on := 9, ground := Ground.guard }], guard := some (9, false) }) (v := ?_) rfl (by kernel_rfl) (by kernel_rfl) (by kernel_rfl) (fun _ _ _ h => h) (Or.inl ⟨by rfl, ?_⟩) (by assumption) ?_
  rotate_left
  · intro w' hSw; (try dsimp only at hSw); first | (go_simp; done) | (go_simp; with_reducible rfl)
  (try simp only [Act.put, List.setIfInBounds_toArray, List.set_cons_zero, List.set_cons_succ])
  refine wpAnyH_take (i := 17) (oi := { dst := some 105, op := Op.pick (Operand.tmp 97) (Operand.const (Value.bool true)) (Operand.tmp 104), type := 4, pos := "laws.go:518", after := #[{ on := 9, ground := Ground.data }, { on := 16, ground := Ground.data }], guard := none }) (v := ?_) rfl (by kernel_rfl) (by kernel_rfl) (by kernel_rfl) (fun _ _ _ h => h) (Or.inl ⟨by rfl, ?_⟩) (by assumption) ?_
  rotate_left
  · intro w' hSw; (try dsimp only at hSw); first | (go_simp; done) | (go_simp; with_reducible rfl)
  (try simp only [Act.put, List.setIfInBounds_toArray, List.set_cons_zero, List.set_cons_succ])
  refine wpAnyH_take (i := 18) (oi := { dst := some 106, op := Op.move (Operand.tmp 105), type := 4, pos := "laws.go:518", after := #[{ on := 17, ground := Ground.data }, { on := 15, ground := Ground.chain }], guard := none }) (v := ?_) rfl (by kernel_rfl) (by kernel_rfl) (by kernel_rfl) (fun _ _ _ h => h) (Or.inl ⟨by rfl, ?_⟩) (by assumption) ?_
  rotate_left
  · intro w' hSw; (try dsimp only at hSw); first | (go_simp; done) | (go_simp; with_reducible rfl)
  (try simp only [Act.put, List.setIfInBounds_toArray, List.set_cons_zero, List.set_cons_succ])
  refine wpAnyH_take (i := 19) (oi := { dst := some 107, op := Op.fieldAddr 26 (Operand.tmp 13) 0, type := 0, pos := "laws.go:518", after := #[{ on := 18, ground := Ground.guard }], guard := some (18, false) }) (v := ?_) rfl (by kernel_rfl) (by kernel_rfl) (by kernel_rfl) (fun _ _ _ h => h) (Or.inl ⟨by rfl, ?_⟩) (by assumption) ?_
  rotate_left
  · intro w' hSw; (try dsimp only at hSw); first | (go_simp; done) | (go_simp; with_reducible rfl)
  (try simp only [Act.put, List.setIfInBounds_toArray, List.set_cons_zero, List.set_cons_succ])
  refine wpAnyH_take (i := 20) (oi := { dst := some 108, op := Op.load 24 (Operand.tmp 107), type := 24, pos := "laws.go:518", after := #[{ on := 19, ground := Ground.data }, { on := 18, ground := Ground.guard }], guard := some (18, false) }) (v := ?_) rfl (by kernel_rfl) (by kernel_rfl) (by kernel_rfl) (fun _ _ _ h => h) (Or.inl ⟨by rfl, ?_⟩) (by assumption) ?_
  rotate_left
  · intro w' hSw; (try dsimp only at hSw); first | (go_simp; done) | (go_simp; with_reducible rfl)
  (try simp only [Act.put, List.setIfInBounds_toArray, List.set_cons_zero, List.set_cons_succ])
  refine wpAnyH_take (i := 21) (oi := { dst := some 109, op := Op.fieldAddr 26 (Operand.tmp 15) 0, type := 0, pos := "laws.go:518", after := #[{ on := 18, ground := Ground.guard }], guard := some (18, false) }) (v := ?_) rfl (by kernel_rfl) (by kernel_rfl) (by kernel_rfl) (fun _ _ _ h => h) (Or.inl ⟨by rfl, ?_⟩) (by assumption) ?_
  rotate_left
  · intro w' hSw; (try dsimp only at hSw); first | (go_simp; done) | (go_simp; with_reducible rfl)
  (try simp only [Act.put, List.setIfInBounds_toArray, List.set_cons_zero, List.set_cons_succ])
  refine wpAnyH_take (i := 22) (oi := { dst := some 110, op := Op.load 24 (Operand.tmp 109), type := 24, pos := "laws.go:518", after := #[{ on := 21, ground := Ground.data }, { on := 18, ground := Ground.guard }], guard := some (18, false) }) (v := ?_) rfl (by kernel_rfl) (by kernel_rfl) (by kernel_rfl) (fun _ _ _ h => h) (Or.inl ⟨by rfl, ?_⟩) (by assumption) ?_
  rotate_left
  · intro w' hSw; (try dsimp only at hSw); first | (go_simp; done) | (go_simp; with_reducible rfl)
  (try simp only [Act.put, List.setIfInBounds_toArray, List.set_cons_zero, List.set_cons_succ])
  refine wpAnyH_ready (rs := [23]) (by kernel_rfl) (by simp) ?_
  refine AllReadyH.cons (o := { dst := some 111, op := Op.call { callee := Callee.value (Operand.func 26), args := #[Operand.tmp 108, Operand.tmp 110], argTypes := #[24, 24] }, type := 4, pos := "laws.go:518", after := #[{ on := 20, ground := Ground.data }, { on := 22, ground := Ground.data }, { on := 18, ground := Ground.chain }, { on := 18, ground := Ground.guard }], guard := some (18, false) }) rfl (fun K hK => ?_) AllReadyH.nil
  go_simp
  refine (sameTextsT _ _ mx _ Hd_x.out Hd_y.out (by omega)).mono ?_
  rintro e wx ⟨rfl, hb⟩
  replace Cd_q := Lib.hid (Cd_q.out.on hb)
  replace Cd_m := Lib.hid (Cd_m.out.on hb)
  replace Cd_x := Lib.hid (Cd_x.out.on hb)
  replace Cd_y := Lib.hid (Cd_y.out.on hb)
  replace Cd_u := Lib.hid (Cd_u.out.on hb)
  replace Cd_v := Lib.hid (Cd_v.out.on hb)
  replace Cd_f := Lib.hid (Cd_f.out.on hb)
  replace Hd_q := Lib.hid (Hd_q.out.on hb)
  replace Hd_m := Lib.hid (Hd_m.out.on hb)
  replace Hd_x := Lib.hid (Hd_x.out.on hb)
  replace Hd_y := Lib.hid (Hd_y.out.on hb)
  replace Hd_u := Lib.hid (Hd_u.out.on hb)
  replace Hd_v := Lib.hid (Hd_v.out.on hb)
  replace Hd_f := Lib.hid (Hd_f.out.on hb)
  replace Hd_b := Lib.hid (Hd_b.out.on hb)
  replace Hd_c := Lib.hid (Hd_c.out.on hb)
  replace Hd_r := Lib.hid (Hd_r.out.on hb)
  replace BB := Lib.hid (BB.out.trans (hb.mono BB.out.size)); clear hb
  (try go_wp2_with fail)
  clear hHeld
  refine hK.out _ _ ?_ (fun hHeld => ?_)
  · (try dsimp only); exact ⟨Cd_q.out.cell, Cd_m.out.cell, Cd_x.out.cell, Cd_y.out.cell, Cd_u.out.cell, Cd_v.out.cell, Cd_f.out.cell⟩
  clear hK K
  (try simp only [Act.put, List.setIfInBounds_toArray, List.set_cons_zero, List.set_cons_succ])
  refine wpAnyH_take (i := 24) (oi := { dst := some 112, op := Op.unOp UnOp.not 4 (Operand.tmp 111), type := 4, pos := "laws.go:518", after := #[{ on := 23, ground := Ground.data }, { on := 18, ground := Ground.guard }], guard := some (18, false) }) (v := ?_) rfl (by kernel_rfl) (by kernel_rfl) (by kernel_rfl) (fun _ _ _ h => h) (Or.inl ⟨by rfl, ?_⟩) (by assumption) ?_
  rotate_left
  · intro w' hSw; (try dsimp only at hSw); first | (go_simp; done) | (go_simp; with_reducible rfl)
  (try simp only [Act.put, List.setIfInBounds_toArray, List.set_cons_zero, List.set_cons_succ])
  refine wpAnyH_take (i := 25) (oi := { dst := some 113, op := Op.pick (Operand.tmp 106) (Operand.const (Value.bool true)) (Operand.tmp 112), type := 4, pos := "laws.go:518", after := #[{ on := 18, ground := Ground.data }, { on := 24, ground := Ground.data }], guard := none }) (v := ?_) rfl (by kernel_rfl) (by kernel_rfl) (by kernel_rfl) (fun _ _ _ h => h) (Or.inl ⟨by rfl, ?_⟩) (by assumption) ?_
  rotate_left
  · intro w' hSw; (try dsimp only at hSw); first | (go_simp; done) | (go_simp; with_reducible rfl)
  (try simp only [Act.put, List.setIfInBounds_toArray, List.set_cons_zero, List.set_cons_succ])
  refine wpAnyH_take (i := 26) (oi := { dst := some 114, op := Op.move (Operand.tmp 113), type := 4, pos := "laws.go:518", after := #[{ on := 25, ground := Ground.data }, { on := 23, ground := Ground.chain }], guard := none }) (v := ?_) rfl (by kernel_rfl) (by kernel_rfl) (by kernel_rfl) (fun _ _ _ h => h) (Or.inl ⟨by rfl, ?_⟩) (by assumption) ?_
  rotate_left
  · intro w' hSw; (try dsimp only at hSw); first | (go_simp; done) | (go_simp; with_reducible rfl)
  (try simp only [Act.put, List.setIfInBounds_toArray, List.set_cons_zero, List.set_cons_succ])
  refine wpAnyH_take (i := 27) (oi := { dst := some 115, op := Op.move (Operand.tmp 14), type := 4, pos := "laws.go:518", after := #[{ on := 26, ground := Ground.guard }], guard := some (26, false) }) (v := ?_) rfl (by kernel_rfl) (by kernel_rfl) (by kernel_rfl) (fun _ _ _ h => h) (Or.inl ⟨by rfl, ?_⟩) (by assumption) ?_
  rotate_left
  · intro w' hSw; (try dsimp only at hSw); first | (go_simp; done) | (go_simp; with_reducible rfl)
  (try simp only [Act.put, List.setIfInBounds_toArray, List.set_cons_zero, List.set_cons_succ])
  refine wpAnyH_take (i := 28) (oi := { dst := some 116, op := Op.move (Operand.tmp 16), type := 4, pos := "laws.go:518", after := #[{ on := 26, ground := Ground.guard }], guard := some (26, false) }) (v := ?_) rfl (by kernel_rfl) (by kernel_rfl) (by kernel_rfl) (fun _ _ _ h => h) (Or.inl ⟨by rfl, ?_⟩) (by assumption) ?_
  rotate_left
  · intro w' hSw; (try dsimp only at hSw); first | (go_simp; done) | (go_simp; with_reducible rfl)
  (try simp only [Act.put, List.setIfInBounds_toArray, List.set_cons_zero, List.set_cons_succ])
  refine wpAnyH_take (i := 29) (oi := { dst := some 117, op := Op.binOp BinOp.neq 4 (Operand.tmp 115) (Operand.tmp 116) 4, type := 4, pos := "laws.go:518", after := #[{ on := 27, ground := Ground.data }, { on := 28, ground := Ground.data }, { on := 26, ground := Ground.guard }], guard := some (26, false) }) (v := ?_) rfl (by kernel_rfl) (by kernel_rfl) (by kernel_rfl) (fun _ _ _ h => h) (Or.inl ⟨by rfl, ?_⟩) (by assumption) ?_
  rotate_left
  · intro w' hSw; (try dsimp only at hSw); first | (go_simp; done) | (go_simp; with_reducible rfl)
  (try simp only [Act.put, List.setIfInBounds_toArray, List.set_cons_zero, List.set_cons_succ])
  refine wpAnyH_take (i := 30) (oi := { dst := some 118, op := Op.pick (Operand.tmp 114) (Operand.const (Value.bool true)) (Operand.tmp 117), type := 4, pos := "laws.go:518", after := #[{ on := 26, ground := Ground.data }, { on := 29, ground := Ground.data }], guard := none }) (v := ?_) rfl (by kernel_rfl) (by kernel_rfl) (by kernel_rfl) (fun _ _ _ h => h) (Or.inl ⟨by rfl, ?_⟩) (by assumption) ?_
  rotate_left
  · intro w' hSw; (try dsimp only at hSw); first | (go_simp; done) | (go_simp; with_reducible rfl)
  (try simp only [Act.put, List.setIfInBounds_toArray, List.set_cons_zero, List.set_cons_succ])
  refine wpAnyH_take (i := 31) (oi := { dst := some 119, op := Op.move (Operand.tmp 118), type := 4, pos := "laws.go:518", after := #[{ on := 30, ground := Ground.data }, { on := 26, ground := Ground.chain }], guard := none }) (v := ?_) rfl (by kernel_rfl) (by kernel_rfl) (by kernel_rfl) (fun _ _ _ h => h) (Or.inl ⟨by rfl, ?_⟩) (by assumption) ?_
  rotate_left
  · intro w' hSw; (try dsimp only at hSw); first | (go_simp; done) | (go_simp; with_reducible rfl)
  (try simp only [Act.put, List.setIfInBounds_toArray, List.set_cons_zero, List.set_cons_succ])
  refine wpAnyH_take (i := 32) (oi := { dst := some 120, op := Op.load 27 (Operand.tmp 19), type := 27, pos := "laws.go:518", after := #[{ on := 31, ground := Ground.guard }], guard := some (31, false) }) (v := ?_) rfl (by kernel_rfl) (by kernel_rfl) (by kernel_rfl) (fun _ _ _ h => h) (Or.inl ⟨by rfl, ?_⟩) (by assumption) ?_
  rotate_left
  · intro w' hSw; (try dsimp only at hSw); first | (go_simp; done) | (go_simp; with_reducible rfl)
  (try simp only [Act.put, List.setIfInBounds_toArray, List.set_cons_zero, List.set_cons_succ])
  refine wpAnyH_take (i := 33) (oi := { dst := some 121, op := Op.load 27 (Operand.tmp 21), type := 27, pos := "laws.go:518", after := #[{ on := 31, ground := Ground.guard }], guard := some (31, false) }) (v := ?_) rfl (by kernel_rfl) (by kernel_rfl) (by kernel_rfl) (fun _ _ _ h => h) (Or.inl ⟨by rfl, ?_⟩) (by assumption) ?_
  rotate_left
  · intro w' hSw; (try dsimp only at hSw); first | (go_simp; done) | (go_simp; with_reducible rfl)
  (try simp only [Act.put, List.setIfInBounds_toArray, List.set_cons_zero, List.set_cons_succ])
  refine wpAnyH_ready (rs := [34]) (by kernel_rfl) (by simp) ?_
  refine AllReadyH.cons (o := { dst := some 122, op := Op.call { callee := Callee.value (Operand.func 27), args := #[Operand.tmp 120, Operand.tmp 121], argTypes := #[27, 27] }, type := 4, pos := "laws.go:518", after := #[{ on := 32, ground := Ground.data }, { on := 33, ground := Ground.data }, { on := 31, ground := Ground.chain }, { on := 31, ground := Ground.guard }], guard := some (31, false) }) rfl (fun K hK => ?_) AllReadyH.nil
  go_simp
  refine (sameNameT _ _ mu _ Hd_u.out Hd_v.out (by omega)).mono ?_
  rintro e wx ⟨rfl, hb⟩
  replace Cd_q := Lib.hid (Cd_q.out.on hb)
  replace Cd_m := Lib.hid (Cd_m.out.on hb)
  replace Cd_x := Lib.hid (Cd_x.out.on hb)
  replace Cd_y := Lib.hid (Cd_y.out.on hb)
  replace Cd_u := Lib.hid (Cd_u.out.on hb)
  replace Cd_v := Lib.hid (Cd_v.out.on hb)
  replace Cd_f := Lib.hid (Cd_f.out.on hb)
  replace Hd_q := Lib.hid (Hd_q.out.on hb)
  replace Hd_m := Lib.hid (Hd_m.out.on hb)
  replace Hd_x := Lib.hid (Hd_x.out.on hb)
  replace Hd_y := Lib.hid (Hd_y.out.on hb)
  replace Hd_u := Lib.hid (Hd_u.out.on hb)
  replace Hd_v := Lib.hid (Hd_v.out.on hb)
  replace Hd_f := Lib.hid (Hd_f.out.on hb)
  replace Hd_b := Lib.hid (Hd_b.out.on hb)
  replace Hd_c := Lib.hid (Hd_c.out.on hb)
  replace Hd_r := Lib.hid (Hd_r.out.on hb)
  replace BB := Lib.hid (BB.out.trans (hb.mono BB.out.size)); clear hb
  (try go_wp2_with fail)
  clear hHeld
  refine hK.out _ _ ?_ (fun hHeld => ?_)
  · (try dsimp only); exact ⟨Cd_q.out.cell, Cd_m.out.cell, Cd_x.out.cell, Cd_y.out.cell, Cd_u.out.cell, Cd_v.out.cell, Cd_f.out.cell⟩
  clear hK K
  (try simp only [Act.put, List.setIfInBounds_toArray, List.set_cons_zero, List.set_cons_succ])
  refine wpAnyH_take (i := 35) (oi := { dst := some 123, op := Op.unOp UnOp.not 4 (Operand.tmp 122), type := 4, pos := "laws.go:518", after := #[{ on := 34, ground := Ground.data }, { on := 31, ground := Ground.guard }], guard := some (31, false) }) (v := ?_) rfl (by kernel_rfl) (by kernel_rfl) (by kernel_rfl) (fun _ _ _ h => h) (Or.inl ⟨by rfl, ?_⟩) (by assumption) ?_
  rotate_left
  · intro w' hSw; (try dsimp only at hSw); first | (go_simp; done) | (go_simp; with_reducible rfl)
  (try simp only [Act.put, List.setIfInBounds_toArray, List.set_cons_zero, List.set_cons_succ])
  refine wpAnyH_take (i := 36) (oi := { dst := some 124, op := Op.pick (Operand.tmp 119) (Operand.const (Value.bool true)) (Operand.tmp 123), type := 4, pos := "laws.go:518", after := #[{ on := 31, ground := Ground.data }, { on := 35, ground := Ground.data }], guard := none }) (v := ?_) rfl (by kernel_rfl) (by kernel_rfl) (by kernel_rfl) (fun _ _ _ h => h) (Or.inl ⟨by rfl, ?_⟩) (by assumption) ?_
  rotate_left
  · intro w' hSw; (try dsimp only at hSw); first | (go_simp; done) | (go_simp; with_reducible rfl)
  (try simp only [Act.put, List.setIfInBounds_toArray, List.set_cons_zero, List.set_cons_succ])
  refine wpAnyH_take (i := 37) (oi := { dst := some 125, op := Op.move (Operand.tmp 124), type := 4, pos := "laws.go:518", after := #[{ on := 36, ground := Ground.data }, { on := 34, ground := Ground.chain }], guard := none }) (v := ?_) rfl (by kernel_rfl) (by kernel_rfl) (by kernel_rfl) (fun _ _ _ h => h) (Or.inl ⟨by rfl, ?_⟩) (by assumption) ?_
  rotate_left
  · intro w' hSw; (try dsimp only at hSw); first | (go_simp; done) | (go_simp; with_reducible rfl)
  (try simp only [Act.put, List.setIfInBounds_toArray, List.set_cons_zero, List.set_cons_succ])
  refine wpAnyH_take (i := 38) (oi := { dst := some 126, op := Op.move (Operand.tmp 20), type := 4, pos := "laws.go:518", after := #[{ on := 37, ground := Ground.guard }], guard := some (37, false) }) (v := ?_) rfl (by kernel_rfl) (by kernel_rfl) (by kernel_rfl) (fun _ _ _ h => h) (Or.inl ⟨by rfl, ?_⟩) (by assumption) ?_
  rotate_left
  · intro w' hSw; (try dsimp only at hSw); first | (go_simp; done) | (go_simp; with_reducible rfl)
  (try simp only [Act.put, List.setIfInBounds_toArray, List.set_cons_zero, List.set_cons_succ])
  refine wpAnyH_take (i := 39) (oi := { dst := some 127, op := Op.move (Operand.tmp 22), type := 4, pos := "laws.go:518", after := #[{ on := 37, ground := Ground.guard }], guard := some (37, false) }) (v := ?_) rfl (by kernel_rfl) (by kernel_rfl) (by kernel_rfl) (fun _ _ _ h => h) (Or.inl ⟨by rfl, ?_⟩) (by assumption) ?_
  rotate_left
  · intro w' hSw; (try dsimp only at hSw); first | (go_simp; done) | (go_simp; with_reducible rfl)
  (try simp only [Act.put, List.setIfInBounds_toArray, List.set_cons_zero, List.set_cons_succ])
  refine wpAnyH_take (i := 40) (oi := { dst := some 128, op := Op.binOp BinOp.neq 4 (Operand.tmp 126) (Operand.tmp 127) 4, type := 4, pos := "laws.go:518", after := #[{ on := 38, ground := Ground.data }, { on := 39, ground := Ground.data }, { on := 37, ground := Ground.guard }], guard := some (37, false) }) (v := ?_) rfl (by kernel_rfl) (by kernel_rfl) (by kernel_rfl) (fun _ _ _ h => h) (Or.inl ⟨by rfl, ?_⟩) (by assumption) ?_
  rotate_left
  · intro w' hSw; (try dsimp only at hSw); first | (go_simp; done) | (go_simp; with_reducible rfl)
  (try simp only [Act.put, List.setIfInBounds_toArray, List.set_cons_zero, List.set_cons_succ])
  refine wpAnyH_take (i := 41) (oi := { dst := some 129, op := Op.pick (Operand.tmp 125) (Operand.const (Value.bool true)) (Operand.tmp 128), type := 4, pos := "laws.go:518", after := #[{ on := 37, ground := Ground.data }, { on := 40, ground := Ground.data }], guard := none }) (v := ?_) rfl (by kernel_rfl) (by kernel_rfl) (by kernel_rfl) (fun _ _ _ h => h) (Or.inl ⟨by rfl, ?_⟩) (by assumption) ?_
  rotate_left
  · intro w' hSw; (try dsimp only at hSw); first | (go_simp; done) | (go_simp; with_reducible rfl)
  (try simp only [Act.put, List.setIfInBounds_toArray, List.set_cons_zero, List.set_cons_succ])
  refine wpAnyH_take (i := 42) (oi := { dst := some 130, op := Op.move (Operand.tmp 129), type := 4, pos := "laws.go:518", after := #[{ on := 41, ground := Ground.data }, { on := 37, ground := Ground.chain }], guard := none }) (v := ?_) rfl (by kernel_rfl) (by kernel_rfl) (by kernel_rfl) (fun _ _ _ h => h) (Or.inl ⟨by rfl, ?_⟩) (by assumption) ?_
  rotate_left
  · intro w' hSw; (try dsimp only at hSw); first | (go_simp; done) | (go_simp; with_reducible rfl)
  (try simp only [Act.put, List.setIfInBounds_toArray, List.set_cons_zero, List.set_cons_succ])
  refine wpAnyH_take (i := 43) (oi := { dst := some 131, op := Op.move (Operand.tmp 23), type := 28, pos := "laws.go:518", after := #[{ on := 42, ground := Ground.guard }], guard := some (42, false) }) (v := ?_) rfl (by kernel_rfl) (by kernel_rfl) (by kernel_rfl) (fun _ _ _ h => h) (Or.inl ⟨by rfl, ?_⟩) (by assumption) ?_
  rotate_left
  · intro w' hSw; (try dsimp only at hSw); first | (go_simp; done) | (go_simp; with_reducible rfl)
  (try simp only [Act.put, List.setIfInBounds_toArray, List.set_cons_zero, List.set_cons_succ])
  refine wpAnyH_take (i := 44) (oi := { dst := some 132, op := Op.move (Operand.tmp 24), type := 9, pos := "laws.go:518", after := #[{ on := 42, ground := Ground.guard }], guard := some (42, false) }) (v := ?_) rfl (by kernel_rfl) (by kernel_rfl) (by kernel_rfl) (fun _ _ _ h => h) (Or.inl ⟨by rfl, ?_⟩) (by assumption) ?_
  rotate_left
  · intro w' hSw; (try dsimp only at hSw); first | (go_simp; done) | (go_simp; with_reducible rfl)
  (try simp only [Act.put, List.setIfInBounds_toArray, List.set_cons_zero, List.set_cons_succ])
  refine wpAnyH_take (i := 46) (oi := { dst := some 134, op := Op.move (Operand.tmp 23), type := 28, pos := "laws.go:518", after := #[{ on := 42, ground := Ground.guard }], guard := some (42, false) }) (v := ?_) rfl (by kernel_rfl) (by kernel_rfl) (by kernel_rfl) (fun _ _ _ h => h) (Or.inl ⟨by rfl, ?_⟩) (by assumption) ?_
  rotate_left
  · intro w' hSw; (try dsimp only at hSw); first | (go_simp; done) | (go_simp; with_reducible rfl)
  (try simp only [Act.put, List.setIfInBounds_toArray, List.set_cons_zero, List.set_cons_succ])
  refine wpAnyH_take (i := 47) (oi := { dst := some 135, op := Op.move (Operand.tmp 24), type := 9, pos := "laws.go:518", after := #[{ on := 42, ground := Ground.guard }], guard := some (42, false) }) (v := ?_) rfl (by kernel_rfl) (by kernel_rfl) (by kernel_rfl) (fun _ _ _ h => h) (Or.inl ⟨by rfl, ?_⟩) (by assumption) ?_
  rotate_left
  · intro w' hSw; (try dsimp only at hSw); first | (go_simp; done) | (go_simp; with_reducible rfl)
  (try simp only [Act.put, List.setIfInBounds_toArray, List.set_cons_zero, List.set_cons_succ])
  refine wpAnyH_ready (rs := [45]) (by kernel_rfl) (by simp) ?_
  refine AllReadyH.cons (o := { dst := some 133, op := Op.call { callee := Callee.value (Operand.func 28), args := #[Operand.tmp 131, Operand.tmp 132], argTypes := #[28, 9] }, type := 9, pos := "laws.go:518", after := #[{ on := 43, ground := Ground.data }, { on := 44, ground := Ground.data }, { on := 42, ground := Ground.chain }, { on := 42, ground := Ground.guard }], guard := some (42, false) }) rfl (fun K hK => ?_) AllReadyH.nil
  go_simp
  refine (implBindingValue _ kr k _ Hd_r.out (by omega)).mono ?_
  rintro e wx ⟨rfl, hb⟩
  replace Cd_q := Lib.hid (Cd_q.out.on hb)
  replace Cd_m := Lib.hid (Cd_m.out.on hb)
  replace Cd_x := Lib.hid (Cd_x.out.on hb)
  replace Cd_y := Lib.hid (Cd_y.out.on hb)
  replace Cd_u := Lib.hid (Cd_u.out.on hb)
  replace Cd_v := Lib.hid (Cd_v.out.on hb)
  replace Cd_f := Lib.hid (Cd_f.out.on hb)
  replace Hd_q := Lib.hid (Hd_q.out.on hb)
  replace Hd_m := Lib.hid (Hd_m.out.on hb)
  replace Hd_x := Lib.hid (Hd_x.out.on hb)
  replace Hd_y := Lib.hid (Hd_y.out.on hb)
  replace Hd_u := Lib.hid (Hd_u.out.on hb)
  replace Hd_v := Lib.hid (Hd_v.out.on hb)
  replace Hd_f := Lib.hid (Hd_f.out.on hb)
  replace Hd_b := Lib.hid (Hd_b.out.on hb)
  replace Hd_c := Lib.hid (Hd_c.out.on hb)
  replace Hd_r := Lib.hid (Hd_r.out.on hb)
  replace BB := Lib.hid (BB.out.trans (hb.mono BB.out.size)); clear hb
  (try go_wp2_with fail)
  clear hHeld
  refine hK.out _ _ ?_ (fun hHeld => ?_)
  · (try dsimp only); exact ⟨Cd_q.out.cell, Cd_m.out.cell, Cd_x.out.cell, Cd_y.out.cell, Cd_u.out.cell, Cd_v.out.cell, Cd_f.out.cell⟩
  clear hK K
  (try simp only [Act.put, List.setIfInBounds_toArray, List.set_cons_zero, List.set_cons_succ])
  refine wpAnyH_ready (rs := [48]) (by kernel_rfl) (by simp) ?_
  refine AllReadyH.cons (o := { dst := some 136, op := Op.call { callee := Callee.value (Operand.func 29), args := #[Operand.tmp 134, Operand.tmp 135], argTypes := #[28, 9] }, type := 9, pos := "laws.go:518", after := #[{ on := 46, ground := Ground.data }, { on := 47, ground := Ground.data }, { on := 45, ground := Ground.chain }, { on := 42, ground := Ground.guard }], guard := some (42, false) }) rfl (fun K hK => ?_) AllReadyH.nil
  go_simp
  refine (specBindingValue _ kr k _ Hd_r.out (by omega)).mono ?_
  rintro e wx ⟨rfl, rfl⟩
  (try go_wp2_with fail)
  clear hHeld
  refine hK.out _ _ ?_ (fun hHeld => ?_)
  · (try dsimp only); exact ⟨Cd_q.out.cell, Cd_m.out.cell, Cd_x.out.cell, Cd_y.out.cell, Cd_u.out.cell, Cd_v.out.cell, Cd_f.out.cell⟩
  clear hK K
  (try simp only [Act.put, List.setIfInBounds_toArray, List.set_cons_zero, List.set_cons_succ])
  refine wpAnyH_take (i := 49) (oi := { dst := some 137, op := Op.binOp BinOp.neq 9 (Operand.tmp 133) (Operand.tmp 136) 9, type := 4, pos := "laws.go:518", after := #[{ on := 45, ground := Ground.data }, { on := 48, ground := Ground.data }, { on := 42, ground := Ground.guard }], guard := some (42, false) }) (v := ?_) rfl (by kernel_rfl) (by kernel_rfl) (by kernel_rfl) (fun _ _ _ h => h) (Or.inl ⟨by rfl, ?_⟩) (by assumption) ?_
  rotate_left
  · intro w' hSw; (try dsimp only at hSw); first | (go_simp; done) | (go_simp; with_reducible rfl)
  (try simp only [Act.put, List.setIfInBounds_toArray, List.set_cons_zero, List.set_cons_succ])
  refine wpAnyH_take (i := 50) (oi := { dst := some 138, op := Op.pick (Operand.tmp 130) (Operand.const (Value.bool true)) (Operand.tmp 137), type := 4, pos := "laws.go:518", after := #[{ on := 42, ground := Ground.data }, { on := 49, ground := Ground.data }], guard := none }) (v := ?_) rfl (by kernel_rfl) (by kernel_rfl) (by kernel_rfl) (fun _ _ _ h => h) (Or.inl ⟨by rfl, ?_⟩) (by assumption) ?_
  rotate_left
  · intro w' hSw; (try dsimp only at hSw); first | (go_simp; done) | (go_simp; with_reducible rfl)
  (try simp only [Act.put, List.setIfInBounds_toArray, List.set_cons_zero, List.set_cons_succ])
  refine wpAnyH_take (i := 51) (oi := { dst := some 139, op := Op.move (Operand.tmp 138), type := 4, pos := "laws.go:518", after := #[{ on := 50, ground := Ground.data }, { on := 48, ground := Ground.chain }], guard := none }) (v := ?_) rfl (by kernel_rfl) (by kernel_rfl) (by kernel_rfl) (fun _ _ _ h => h) (Or.inl ⟨by rfl, ?_⟩) (by assumption) ?_
  rotate_left
  · intro w' hSw; (try dsimp only at hSw); first | (go_simp; done) | (go_simp; with_reducible rfl)
  (try simp only [Act.put, List.setIfInBounds_toArray, List.set_cons_zero, List.set_cons_succ])
  refine wpAnyH_take (i := 52) (oi := { dst := some 140, op := Op.load 26 (Operand.tmp 17), type := 26, pos := "laws.go:518", after := #[{ on := 51, ground := Ground.guard }], guard := some (51, false) }) (v := ?_) rfl (by kernel_rfl) (by kernel_rfl) (by kernel_rfl) (fun _ _ _ h => h) (Or.inl ⟨by rfl, ?_⟩) (by assumption) ?_
  rotate_left
  · intro w' hSw; (try dsimp only at hSw); first | (go_simp; done) | (go_simp; with_reducible rfl)
  (try simp only [Act.put, List.setIfInBounds_toArray, List.set_cons_zero, List.set_cons_succ])
  refine wpAnyH_take (i := 54) (oi := { dst := some 142, op := Op.load 26 (Operand.tmp 17), type := 26, pos := "laws.go:518", after := #[{ on := 51, ground := Ground.guard }], guard := some (51, false) }) (v := ?_) rfl (by kernel_rfl) (by kernel_rfl) (by kernel_rfl) (fun _ _ _ h => h) (Or.inl ⟨by rfl, ?_⟩) (by assumption) ?_
  rotate_left
  · intro w' hSw; (try dsimp only at hSw); first | (go_simp; done) | (go_simp; with_reducible rfl)
  (try simp only [Act.put, List.setIfInBounds_toArray, List.set_cons_zero, List.set_cons_succ])
  refine wpAnyH_ready (rs := [53]) (by kernel_rfl) (by simp) ?_
  refine AllReadyH.cons (o := { dst := some 141, op := Op.call { callee := Callee.value (Operand.func 30), args := #[Operand.tmp 140], argTypes := #[26] }, type := 9, pos := "laws.go:518", after := #[{ on := 52, ground := Ground.data }, { on := 51, ground := Ground.chain }, { on := 51, ground := Ground.guard }], guard := some (51, false) }) rfl (fun K hK => ?_) AllReadyH.nil
  go_simp
  refine (implFormatPattern _ mf _ Hd_f.out (by omega)).mono ?_
  rintro e wx ⟨rfl, hb⟩
  replace Cd_q := Lib.hid (Cd_q.out.on hb)
  replace Cd_m := Lib.hid (Cd_m.out.on hb)
  replace Cd_x := Lib.hid (Cd_x.out.on hb)
  replace Cd_y := Lib.hid (Cd_y.out.on hb)
  replace Cd_u := Lib.hid (Cd_u.out.on hb)
  replace Cd_v := Lib.hid (Cd_v.out.on hb)
  replace Cd_f := Lib.hid (Cd_f.out.on hb)
  replace Hd_q := Lib.hid (Hd_q.out.on hb)
  replace Hd_m := Lib.hid (Hd_m.out.on hb)
  replace Hd_x := Lib.hid (Hd_x.out.on hb)
  replace Hd_y := Lib.hid (Hd_y.out.on hb)
  replace Hd_u := Lib.hid (Hd_u.out.on hb)
  replace Hd_v := Lib.hid (Hd_v.out.on hb)
  replace Hd_f := Lib.hid (Hd_f.out.on hb)
  replace Hd_b := Lib.hid (Hd_b.out.on hb)
  replace Hd_c := Lib.hid (Hd_c.out.on hb)
  replace Hd_r := Lib.hid (Hd_r.out.on hb)
  replace BB := Lib.hid (BB.out.trans (hb.mono BB.out.size)); clear hb
  (try go_wp2_with fail)
  clear hHeld
  refine hK.out _ _ ?_ (fun hHeld => ?_)
  · (try dsimp only); exact ⟨Cd_q.out.cell, Cd_m.out.cell, Cd_x.out.cell, Cd_y.out.cell, Cd_u.out.cell, Cd_v.out.cell, Cd_f.out.cell⟩
  clear hK K
  (try simp only [Act.put, List.setIfInBounds_toArray, List.set_cons_zero, List.set_cons_succ])
  refine wpAnyH_ready (rs := [55]) (by kernel_rfl) (by simp) ?_
  refine AllReadyH.cons (o := { dst := some 143, op := Op.call { callee := Callee.value (Operand.func 31), args := #[Operand.tmp 142], argTypes := #[26] }, type := 9, pos := "laws.go:518", after := #[{ on := 54, ground := Ground.data }, { on := 53, ground := Ground.chain }, { on := 51, ground := Ground.guard }], guard := some (51, false) }) rfl (fun K hK => ?_) AllReadyH.nil
  go_simp
  refine (specFormatPattern _ mf _ Hd_f.out (by omega)).mono ?_
  rintro e wx ⟨rfl, hb⟩
  replace Cd_q := Lib.hid (Cd_q.out.on hb)
  replace Cd_m := Lib.hid (Cd_m.out.on hb)
  replace Cd_x := Lib.hid (Cd_x.out.on hb)
  replace Cd_y := Lib.hid (Cd_y.out.on hb)
  replace Cd_u := Lib.hid (Cd_u.out.on hb)
  replace Cd_v := Lib.hid (Cd_v.out.on hb)
  replace Cd_f := Lib.hid (Cd_f.out.on hb)
  replace Hd_q := Lib.hid (Hd_q.out.on hb)
  replace Hd_m := Lib.hid (Hd_m.out.on hb)
  replace Hd_x := Lib.hid (Hd_x.out.on hb)
  replace Hd_y := Lib.hid (Hd_y.out.on hb)
  replace Hd_u := Lib.hid (Hd_u.out.on hb)
  replace Hd_v := Lib.hid (Hd_v.out.on hb)
  replace Hd_f := Lib.hid (Hd_f.out.on hb)
  replace Hd_b := Lib.hid (Hd_b.out.on hb)
  replace Hd_c := Lib.hid (Hd_c.out.on hb)
  replace Hd_r := Lib.hid (Hd_r.out.on hb)
  replace BB := Lib.hid (BB.out.trans (hb.mono BB.out.size)); clear hb
  (try go_wp2_with fail)
  clear hHeld
  refine hK.out _ _ ?_ (fun hHeld => ?_)
  · (try dsimp only); exact ⟨Cd_q.out.cell, Cd_m.out.cell, Cd_x.out.cell, Cd_y.out.cell, Cd_u.out.cell, Cd_v.out.cell, Cd_f.out.cell⟩
  clear hK K
  (try simp only [Act.put, List.setIfInBounds_toArray, List.set_cons_zero, List.set_cons_succ])
  refine wpAnyH_take (i := 56) (oi := { dst := some 144, op := Op.binOp BinOp.neq 9 (Operand.tmp 141) (Operand.tmp 143) 9, type := 4, pos := "laws.go:518", after := #[{ on := 53, ground := Ground.data }, { on := 55, ground := Ground.data }, { on := 51, ground := Ground.guard }], guard := some (51, false) }) (v := ?_) rfl (by kernel_rfl) (by kernel_rfl) (by kernel_rfl) (fun _ _ _ h => h) (Or.inl ⟨by rfl, ?_⟩) (by assumption) ?_
  rotate_left
  · intro w' hSw; (try dsimp only at hSw); first | (go_simp; done) | (go_simp; with_reducible rfl)
  (try simp only [Act.put, List.setIfInBounds_toArray, List.set_cons_zero, List.set_cons_succ])
  refine wpAnyH_take (i := 57) (oi := { dst := some 145, op := Op.pick (Operand.tmp 139) (Operand.const (Value.bool true)) (Operand.tmp 144), type := 4, pos := "laws.go:518", after := #[{ on := 51, ground := Ground.data }, { on := 56, ground := Ground.data }], guard := none }) (v := ?_) rfl (by kernel_rfl) (by kernel_rfl) (by kernel_rfl) (fun _ _ _ h => h) (Or.inl ⟨by rfl, ?_⟩) (by assumption) ?_
  rotate_left
  · intro w' hSw; (try dsimp only at hSw); first | (go_simp; done) | (go_simp; with_reducible rfl)
  (try simp only [Act.put, List.setIfInBounds_toArray, List.set_cons_zero, List.set_cons_succ])
  refine wpAnyH_take (i := 58) (oi := { dst := some 146, op := Op.move (Operand.tmp 145), type := 4, pos := "laws.go:518", after := #[{ on := 57, ground := Ground.data }, { on := 55, ground := Ground.chain }], guard := none }) (v := ?_) rfl (by kernel_rfl) (by kernel_rfl) (by kernel_rfl) (fun _ _ _ h => h) (Or.inl ⟨by rfl, ?_⟩) (by assumption) ?_
  rotate_left
  · intro w' hSw; (try dsimp only at hSw); first | (go_simp; done) | (go_simp; with_reducible rfl)
  (try simp only [Act.put, List.setIfInBounds_toArray, List.set_cons_zero, List.set_cons_succ])
  refine wpAnyH_take (i := 59) (oi := { dst := some 147, op := Op.load 26 (Operand.tmp 17), type := 26, pos := "laws.go:518", after := #[{ on := 58, ground := Ground.guard }], guard := some (58, false) }) (v := ?_) rfl (by kernel_rfl) (by kernel_rfl) (by kernel_rfl) (fun _ _ _ h => h) (Or.inl ⟨by rfl, ?_⟩) (by assumption) ?_
  rotate_left
  · intro w' hSw; (try dsimp only at hSw); first | (go_simp; done) | (go_simp; with_reducible rfl)
  (try simp only [Act.put, List.setIfInBounds_toArray, List.set_cons_zero, List.set_cons_succ])
  refine wpAnyH_take (i := 61) (oi := { dst := some 149, op := Op.load 26 (Operand.tmp 17), type := 26, pos := "laws.go:518", after := #[{ on := 58, ground := Ground.guard }], guard := some (58, false) }) (v := ?_) rfl (by kernel_rfl) (by kernel_rfl) (by kernel_rfl) (fun _ _ _ h => h) (Or.inl ⟨by rfl, ?_⟩) (by assumption) ?_
  rotate_left
  · intro w' hSw; (try dsimp only at hSw); first | (go_simp; done) | (go_simp; with_reducible rfl)
  (try simp only [Act.put, List.setIfInBounds_toArray, List.set_cons_zero, List.set_cons_succ])
  refine wpAnyH_ready (rs := [60]) (by kernel_rfl) (by simp) ?_
  refine AllReadyH.cons (o := { dst := some 148, op := Op.call { callee := Callee.value (Operand.func 32), args := #[Operand.tmp 147], argTypes := #[26] }, type := 4, pos := "laws.go:518", after := #[{ on := 59, ground := Ground.data }, { on := 58, ground := Ground.chain }, { on := 58, ground := Ground.guard }], guard := some (58, false) }) rfl (fun K hK => ?_) AllReadyH.nil
  go_simp
  refine (implValidPattern _ mf _ Hd_f.out (by omega)).mono ?_
  rintro e wx ⟨rfl, hb⟩
  replace Cd_q := Lib.hid (Cd_q.out.on hb)
  replace Cd_m := Lib.hid (Cd_m.out.on hb)
  replace Cd_x := Lib.hid (Cd_x.out.on hb)
  replace Cd_y := Lib.hid (Cd_y.out.on hb)
  replace Cd_u := Lib.hid (Cd_u.out.on hb)
  replace Cd_v := Lib.hid (Cd_v.out.on hb)
  replace Cd_f := Lib.hid (Cd_f.out.on hb)
  replace Hd_q := Lib.hid (Hd_q.out.on hb)
  replace Hd_m := Lib.hid (Hd_m.out.on hb)
  replace Hd_x := Lib.hid (Hd_x.out.on hb)
  replace Hd_y := Lib.hid (Hd_y.out.on hb)
  replace Hd_u := Lib.hid (Hd_u.out.on hb)
  replace Hd_v := Lib.hid (Hd_v.out.on hb)
  replace Hd_f := Lib.hid (Hd_f.out.on hb)
  replace Hd_b := Lib.hid (Hd_b.out.on hb)
  replace Hd_c := Lib.hid (Hd_c.out.on hb)
  replace Hd_r := Lib.hid (Hd_r.out.on hb)
  replace BB := Lib.hid (BB.out.trans (hb.mono BB.out.size)); clear hb
  (try go_wp2_with fail)
  clear hHeld
  refine hK.out _ _ ?_ (fun hHeld => ?_)
  · (try dsimp only); exact ⟨Cd_q.out.cell, Cd_m.out.cell, Cd_x.out.cell, Cd_y.out.cell, Cd_u.out.cell, Cd_v.out.cell, Cd_f.out.cell⟩
  clear hK K
  (try simp only [Act.put, List.setIfInBounds_toArray, List.set_cons_zero, List.set_cons_succ])
  refine wpAnyH_ready (rs := [62]) (by kernel_rfl) (by simp) ?_
  refine AllReadyH.cons (o := { dst := some 150, op := Op.call { callee := Callee.value (Operand.func 33), args := #[Operand.tmp 149], argTypes := #[26] }, type := 4, pos := "laws.go:518", after := #[{ on := 61, ground := Ground.data }, { on := 60, ground := Ground.chain }, { on := 58, ground := Ground.guard }], guard := some (58, false) }) rfl (fun K hK => ?_) AllReadyH.nil
  go_simp
  refine (specValidPattern _ mf _ Hd_f.out (by omega)).mono ?_
  rintro e wx ⟨rfl, hb⟩
  replace Cd_q := Lib.hid (Cd_q.out.on hb)
  replace Cd_m := Lib.hid (Cd_m.out.on hb)
  replace Cd_x := Lib.hid (Cd_x.out.on hb)
  replace Cd_y := Lib.hid (Cd_y.out.on hb)
  replace Cd_u := Lib.hid (Cd_u.out.on hb)
  replace Cd_v := Lib.hid (Cd_v.out.on hb)
  replace Cd_f := Lib.hid (Cd_f.out.on hb)
  replace Hd_q := Lib.hid (Hd_q.out.on hb)
  replace Hd_m := Lib.hid (Hd_m.out.on hb)
  replace Hd_x := Lib.hid (Hd_x.out.on hb)
  replace Hd_y := Lib.hid (Hd_y.out.on hb)
  replace Hd_u := Lib.hid (Hd_u.out.on hb)
  replace Hd_v := Lib.hid (Hd_v.out.on hb)
  replace Hd_f := Lib.hid (Hd_f.out.on hb)
  replace Hd_b := Lib.hid (Hd_b.out.on hb)
  replace Hd_c := Lib.hid (Hd_c.out.on hb)
  replace Hd_r := Lib.hid (Hd_r.out.on hb)
  replace BB := Lib.hid (BB.out.trans (hb.mono BB.out.size)); clear hb
  (try go_wp2_with fail)
  clear hHeld
  refine hK.out _ _ ?_ (fun hHeld => ?_)
  · (try dsimp only); exact ⟨Cd_q.out.cell, Cd_m.out.cell, Cd_x.out.cell, Cd_y.out.cell, Cd_u.out.cell, Cd_v.out.cell, Cd_f.out.cell⟩
  clear hK K
  (try simp only [Act.put, List.setIfInBounds_toArray, List.set_cons_zero, List.set_cons_succ])
  refine wpAnyH_take (i := 63) (oi := { dst := some 151, op := Op.binOp BinOp.neq 4 (Operand.tmp 148) (Operand.tmp 150) 4, type := 4, pos := "laws.go:518", after := #[{ on := 60, ground := Ground.data }, { on := 62, ground := Ground.data }, { on := 58, ground := Ground.guard }], guard := some (58, false) }) (v := ?_) rfl (by kernel_rfl) (by kernel_rfl) (by kernel_rfl) (fun _ _ _ h => h) (Or.inl ⟨by rfl, ?_⟩) (by assumption) ?_
  rotate_left
  · intro w' hSw; (try dsimp only at hSw); first | (go_simp; done) | (go_simp; with_reducible rfl)
  (try simp only [Act.put, List.setIfInBounds_toArray, List.set_cons_zero, List.set_cons_succ])
  refine wpAnyH_take (i := 64) (oi := { dst := some 152, op := Op.pick (Operand.tmp 146) (Operand.const (Value.bool true)) (Operand.tmp 151), type := 4, pos := "laws.go:518", after := #[{ on := 58, ground := Ground.data }, { on := 63, ground := Ground.data }], guard := none }) (v := ?_) rfl (by kernel_rfl) (by kernel_rfl) (by kernel_rfl) (fun _ _ _ h => h) (Or.inl ⟨by rfl, ?_⟩) (by assumption) ?_
  rotate_left
  · intro w' hSw; (try dsimp only at hSw); first | (go_simp; done) | (go_simp; with_reducible rfl)
  (try simp only [Act.put, List.setIfInBounds_toArray, List.set_cons_zero, List.set_cons_succ])
  refine wpAnyH_done (by kernel_rfl) ?_ _
  exact NoPanic.normal (HQ.out _ _ _ _ _ _ _ _ _ _ _ _ _ _ _ _ _ _ _ _ _ _ _ _ _ _ _ _ _ _ _ _ _ _ _ _ _ _ _ _ _ _ _ _ _ _ _ _ _ _ _ _ _ _ _ _ _ _ _ _ _ _ _ _ _ BB.out)

end Go.Proofs.Ytoibmgnmnmeklaa.Row
