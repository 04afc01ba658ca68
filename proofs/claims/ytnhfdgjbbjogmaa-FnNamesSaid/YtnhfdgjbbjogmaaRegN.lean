/- A great region of a drawn law: whatever order is drawn, its last value is false. No conditions. -/
import Derived.WalkKit
import Derived.Deep.RegionHeld3
import Derived.Test.YtnhfdgjbbjogmaaNameTop
namespace Go.Proofs.Ytnhfdgjbbjogmaa.Row
open Go.ChangeShapes Go.WideShapes Go.ChangeAt Go.RowKit Go.Instr
set_option linter.unusedVariables false

set_option maxRecDepth 100000 in
set_option maxHeartbeats 40000000 in
theorem reg11 {Q : Exit → Act → World → Prop} {v0 v1 v2 v4 v5 v6 v16 v17 v18 v19 v20 v21 v22 v23 v24 v25 v26 v27 v28 v29 v30 v31 v32 v33 v34 v35 v36 v37 v38 v39 v40 v41 v42 v43 v44 v45 v46 v47 v48 v49 v50 v51 v52 v53 v54 v55 v56 v57 v58 v59 v60 v61 v62 v63 v64 v65 v66 v67 v68 v69 v70 v71 v72 v73 v74 v75 v76 v77 v78 v79 v80 v81 v82 v83 v84 v85 v86 v87 v88 v89 v90 v91 v92 v93 v94 v95 v96 v97 v98 v99 v100 v101 v102 v103 v104 v105 v106 v107 v108 v109 v110 v111 v112 v113 v114 v115 v116 v117 v118 v119 v120 v121 v122 v123 v124 v125 v126 v127 v128 v129 v130 v131 v132 v133 v134 v135 v136 v137 v138 v139 v140 v141 v142 v143 v144 v145 v146 v147 v148 v149 v150 v151 v152 v153 v154 v155 v156 v157 v158 v159 v160 v161 v162 v163 v164 v165 v166 v167 v168 v169 v170 v171 v172 v173 v174 : Value} {w : World} {bn by_ bz ba bb bp : Nat} {k : Int} {ok : Bool} {c : ByteArray} {x_n : Option Addr} {n_n c_n : Nat} {x_y : Option Addr} {n_y c_y : Nat} {x_z : Option Addr} {n_z c_z : Nat} {x_a : Option Addr} {n_a c_a : Nat} {x_b : Option Addr} {n_b c_b : Nat} {x_p : Option Addr} {n_p c_p : Nat} {mn my ma mb mp : List ByteArray} (C_n : Hid (Ret.Box w bn (.slice x_n n_n c_n) 26)) (H_n : Hid (Holds Value.string w (.slice x_n n_n c_n) mn)) (C_y : Hid (Ret.Box w by_ (.slice x_y n_y c_y) 26)) (H_y : Hid (Holds Value.string w (.slice x_y n_y c_y) my)) (C_z : Hid (Ret.Box w bz (.slice x_z n_z c_z) 26)) (H_z : Hid (Holds Value.string w (.slice x_z n_z c_z) my)) (C_a : Hid (Ret.Box w ba (.slice x_a n_a c_a) 26)) (H_a : Hid (Holds Value.string w (.slice x_a n_a c_a) ma)) (C_b : Hid (Ret.Box w bb (.slice x_b n_b c_b) 26)) (H_b : Hid (Holds Value.string w (.slice x_b n_b c_b) mb)) (C_p : Hid (Ret.Box w bp (.slice x_p n_p c_p) 26)) (H_p : Hid (Holds Value.string w (.slice x_p n_p c_p) mp))
    (la : ma.length ≤ 1000) (lb : mb.length ≤ 1000) (lp : mp.length ≤ 1000) (ln : mn.length ≤ 1000) (py : my.length ≤ 6) (tl : (trN mp k).length ≤ mp.length) (bk : bulk mn ≤ 1000) (bc : c.size ≤ 2000)
    (hQ : ∀ (u50 u51 u52 u53 u54 u55 u56 u57 u58 u59 u60 u61 u62 u63 u64 u65 u66 u67 u68 u69 u70 u71 u72 u73 u74 u75 u76 u77 u78 u79 u80 u81 u82 u83 u84 u85 u86 u87 u88 u89 u90 u91 u92 u93 u94 u95 u96 u97 u98 u99 u100 u101 u102 u103 u104 u105 u106 u107 u108 u109 u110 u111 u112 u113 u114 u115 : Value) (wx : World), Below w.heap.size w wx → Q .normal ⟨#[v0, v1, v2, .pointer (some ⟨bn, 0, none⟩), v4, v5, v6, .pointer (some ⟨by_, 0, none⟩), .bool ok, .pointer (some ⟨bz, 0, none⟩), .bool ok, .pointer (some ⟨ba, 0, none⟩), .pointer (some ⟨bb, 0, none⟩), .pointer (some ⟨bp, 0, none⟩), .int .i64 k, .string c, v16, v17, v18, v19, v20, v21, v22, v23, v24, v25, v26, v27, v28, v29, v30, v31, v32, v33, v34, v35, v36, v37, v38, v39, v40, v41, v42, v43, v44, v45, v46, v47, v48, v49, u50, u51, u52, u53, u54, u55, u56, u57, u58, u59, u60, u61, u62, u63, u64, u65, u66, u67, u68, u69, u70, u71, u72, u73, u74, u75, u76, u77, u78, u79, u80, u81, u82, u83, u84, u85, u86, u87, u88, u89, u90, u91, u92, u93, u94, u95, u96, u97, u98, u99, u100, u101, u102, u103, u104, u105, u106, u107, u108, u109, u110, u111, u112, u113, u114, u115, .bool false, v117, v118, v119, v120, v121, v122, v123, v124, v125, v126, v127, v128, v129, v130, v131, v132, v133, v134, v135, v136, v137, v138, v139, v140, v141, v142, v143, v144, v145, v146, v147, v148, v149, v150, v151, v152, v153, v154, v155, v156, v157, v158, v159, v160, v161, v162, v163, v164, v165, v166, v167, v168, v169, v170, v171, v172, v173, v174], []⟩ wx) :
    (Code.region 11 #[{ dst := some 50, op := Op.load 26 (Operand.tmp 3), type := 26, pos := "laws.go:472", after := #[], guard := none },
      { dst := some 51, op := Op.call { callee := Callee.value (Operand.func 18), args := #[Operand.tmp 50], argTypes := #[26] }, type := 9, pos := "laws.go:472", after := #[{ on := 0, ground := Ground.data }], guard := none },
      { dst := some 52, op := Op.load 26 (Operand.tmp 3), type := 26, pos := "laws.go:472", after := #[], guard := none },
      { dst := some 53, op := Op.call { callee := Callee.value (Operand.func 23), args := #[Operand.tmp 52], argTypes := #[26] }, type := 9, pos := "laws.go:472", after := #[{ on := 2, ground := Ground.data }, { on := 1, ground := Ground.chain }], guard := none },
      { dst := some 54, op := Op.binOp BinOp.neq 9 (Operand.tmp 51) (Operand.tmp 53) 9, type := 4, pos := "laws.go:472", after := #[{ on := 1, ground := Ground.data }, { on := 3, ground := Ground.data }], guard := none },
      { dst := some 55, op := Op.move (Operand.tmp 54), type := 4, pos := "laws.go:472", after := #[{ on := 4, ground := Ground.data }, { on := 3, ground := Ground.chain }], guard := none },
      { dst := some 56, op := Op.load 26 (Operand.tmp 7), type := 26, pos := "laws.go:472", after := #[{ on := 5, ground := Ground.guard }], guard := some (5, false) },
      { dst := some 57, op := Op.load 26 (Operand.tmp 9), type := 26, pos := "laws.go:472", after := #[{ on := 5, ground := Ground.guard }], guard := some (5, false) },
      { dst := some 58, op := Op.call { callee := Callee.value (Operand.func 24), args := #[Operand.tmp 56, Operand.tmp 57], argTypes := #[26, 26] }, type := 4, pos := "laws.go:472", after := #[{ on := 6, ground := Ground.data }, { on := 7, ground := Ground.data }, { on := 5, ground := Ground.chain }, { on := 5, ground := Ground.guard }], guard := some (5, false) },
      { dst := some 59, op := Op.unOp UnOp.not 4 (Operand.tmp 58), type := 4, pos := "laws.go:472", after := #[{ on := 8, ground := Ground.data }, { on := 5, ground := Ground.guard }], guard := some (5, false) },
      { dst := some 60, op := Op.pick (Operand.tmp 55) (Operand.const (Value.bool true)) (Operand.tmp 59), type := 4, pos := "laws.go:472", after := #[{ on := 5, ground := Ground.data }, { on := 9, ground := Ground.data }], guard := none },
      { dst := some 61, op := Op.move (Operand.tmp 60), type := 4, pos := "laws.go:472", after := #[{ on := 10, ground := Ground.data }, { on := 8, ground := Ground.chain }], guard := none },
      { dst := some 62, op := Op.move (Operand.tmp 8), type := 4, pos := "laws.go:472", after := #[{ on := 11, ground := Ground.guard }], guard := some (11, false) },
      { dst := some 63, op := Op.move (Operand.tmp 10), type := 4, pos := "laws.go:472", after := #[{ on := 11, ground := Ground.guard }], guard := some (11, false) },
      { dst := some 64, op := Op.binOp BinOp.neq 4 (Operand.tmp 62) (Operand.tmp 63) 4, type := 4, pos := "laws.go:472", after := #[{ on := 12, ground := Ground.data }, { on := 13, ground := Ground.data }, { on := 11, ground := Ground.guard }], guard := some (11, false) },
      { dst := some 65, op := Op.pick (Operand.tmp 61) (Operand.const (Value.bool true)) (Operand.tmp 64), type := 4, pos := "laws.go:472", after := #[{ on := 11, ground := Ground.data }, { on := 14, ground := Ground.data }], guard := none },
      { dst := some 66, op := Op.move (Operand.tmp 65), type := 4, pos := "laws.go:472", after := #[{ on := 15, ground := Ground.data }, { on := 11, ground := Ground.chain }], guard := none },
      { dst := some 67, op := Op.load 26 (Operand.tmp 11), type := 26, pos := "laws.go:472", after := #[{ on := 16, ground := Ground.guard }], guard := some (16, false) },
      { dst := some 68, op := Op.load 26 (Operand.tmp 12), type := 26, pos := "laws.go:472", after := #[{ on := 16, ground := Ground.guard }], guard := some (16, false) },
      { dst := some 69, op := Op.call { callee := Callee.value (Operand.func 25), args := #[Operand.tmp 67, Operand.tmp 68], argTypes := #[26, 26] }, type := 3, pos := "laws.go:472", after := #[{ on := 17, ground := Ground.data }, { on := 18, ground := Ground.data }, { on := 16, ground := Ground.chain }, { on := 16, ground := Ground.guard }], guard := some (16, false) },
      { dst := some 70, op := Op.load 26 (Operand.tmp 11), type := 26, pos := "laws.go:472", after := #[{ on := 16, ground := Ground.guard }], guard := some (16, false) },
      { dst := some 71, op := Op.load 26 (Operand.tmp 12), type := 26, pos := "laws.go:472", after := #[{ on := 16, ground := Ground.guard }], guard := some (16, false) },
      { dst := some 72, op := Op.call { callee := Callee.value (Operand.func 26), args := #[Operand.tmp 70, Operand.tmp 71], argTypes := #[26, 26] }, type := 3, pos := "laws.go:472", after := #[{ on := 20, ground := Ground.data }, { on := 21, ground := Ground.data }, { on := 19, ground := Ground.chain }, { on := 16, ground := Ground.guard }], guard := some (16, false) },
      { dst := some 73, op := Op.binOp BinOp.neq 3 (Operand.tmp 69) (Operand.tmp 72) 3, type := 4, pos := "laws.go:472", after := #[{ on := 19, ground := Ground.data }, { on := 22, ground := Ground.data }, { on := 16, ground := Ground.guard }], guard := some (16, false) },
      { dst := some 74, op := Op.pick (Operand.tmp 66) (Operand.const (Value.bool true)) (Operand.tmp 73), type := 4, pos := "laws.go:472", after := #[{ on := 16, ground := Ground.data }, { on := 23, ground := Ground.data }], guard := none },
      { dst := some 75, op := Op.move (Operand.tmp 74), type := 4, pos := "laws.go:472", after := #[{ on := 24, ground := Ground.data }, { on := 22, ground := Ground.chain }], guard := none },
      { dst := some 76, op := Op.load 26 (Operand.tmp 13), type := 26, pos := "laws.go:472", after := #[{ on := 25, ground := Ground.guard }], guard := some (25, false) },
      { dst := some 77, op := Op.move (Operand.tmp 14), type := 3, pos := "laws.go:472", after := #[{ on := 25, ground := Ground.guard }], guard := some (25, false) },
      { dst := some 78, op := Op.call { callee := Callee.value (Operand.func 27), args := #[Operand.tmp 76, Operand.tmp 77], argTypes := #[26, 3] }, type := 26, pos := "laws.go:472", after := #[{ on := 26, ground := Ground.data }, { on := 27, ground := Ground.data }, { on := 25, ground := Ground.chain }, { on := 25, ground := Ground.guard }], guard := some (25, false) },
      { dst := some 79, op := Op.load 26 (Operand.tmp 13), type := 26, pos := "laws.go:472", after := #[{ on := 25, ground := Ground.guard }], guard := some (25, false) },
      { dst := some 80, op := Op.move (Operand.tmp 14), type := 3, pos := "laws.go:472", after := #[{ on := 25, ground := Ground.guard }], guard := some (25, false) },
      { dst := some 81, op := Op.call { callee := Callee.value (Operand.func 28), args := #[Operand.tmp 79, Operand.tmp 80], argTypes := #[26, 3] }, type := 26, pos := "laws.go:472", after := #[{ on := 29, ground := Ground.data }, { on := 30, ground := Ground.data }, { on := 28, ground := Ground.chain }, { on := 25, ground := Ground.guard }], guard := some (25, false) },
      { dst := some 82, op := Op.call { callee := Callee.value (Operand.func 24), args := #[Operand.tmp 78, Operand.tmp 81], argTypes := #[26, 26] }, type := 4, pos := "laws.go:472", after := #[{ on := 28, ground := Ground.data }, { on := 31, ground := Ground.data }, { on := 31, ground := Ground.chain }, { on := 25, ground := Ground.guard }], guard := some (25, false) },
      { dst := some 83, op := Op.unOp UnOp.not 4 (Operand.tmp 82), type := 4, pos := "laws.go:472", after := #[{ on := 32, ground := Ground.data }, { on := 25, ground := Ground.guard }], guard := some (25, false) },
      { dst := some 84, op := Op.pick (Operand.tmp 75) (Operand.const (Value.bool true)) (Operand.tmp 83), type := 4, pos := "laws.go:472", after := #[{ on := 25, ground := Ground.data }, { on := 33, ground := Ground.data }], guard := none },
      { dst := some 85, op := Op.move (Operand.tmp 84), type := 4, pos := "laws.go:472", after := #[{ on := 34, ground := Ground.data }, { on := 32, ground := Ground.chain }], guard := none },
      { dst := some 86, op := Op.move (Operand.tmp 15), type := 9, pos := "laws.go:472", after := #[{ on := 35, ground := Ground.guard }], guard := some (35, false) },
      { dst := some 87, op := Op.call { callee := Callee.value (Operand.func 29), args := #[Operand.tmp 86], argTypes := #[9] }, type := 4, pos := "laws.go:472", after := #[{ on := 36, ground := Ground.data }, { on := 35, ground := Ground.chain }, { on := 35, ground := Ground.guard }], guard := some (35, false) },
      { dst := some 88, op := Op.move (Operand.tmp 15), type := 9, pos := "laws.go:472", after := #[{ on := 35, ground := Ground.guard }], guard := some (35, false) },
      { dst := some 89, op := Op.call { callee := Callee.value (Operand.func 30), args := #[Operand.tmp 88], argTypes := #[9] }, type := 4, pos := "laws.go:472", after := #[{ on := 38, ground := Ground.data }, { on := 37, ground := Ground.chain }, { on := 35, ground := Ground.guard }], guard := some (35, false) },
      { dst := some 90, op := Op.binOp BinOp.neq 4 (Operand.tmp 87) (Operand.tmp 89) 4, type := 4, pos := "laws.go:472", after := #[{ on := 37, ground := Ground.data }, { on := 39, ground := Ground.data }, { on := 35, ground := Ground.guard }], guard := some (35, false) },
      { dst := some 91, op := Op.pick (Operand.tmp 85) (Operand.const (Value.bool true)) (Operand.tmp 90), type := 4, pos := "laws.go:472", after := #[{ on := 35, ground := Ground.data }, { on := 40, ground := Ground.data }], guard := none },
      { dst := some 92, op := Op.move (Operand.tmp 91), type := 4, pos := "laws.go:472", after := #[{ on := 41, ground := Ground.data }, { on := 39, ground := Ground.chain }], guard := none },
      { dst := some 93, op := Op.load 26 (Operand.tmp 3), type := 26, pos := "laws.go:472", after := #[{ on := 42, ground := Ground.guard }], guard := some (42, false) },
      { dst := some 94, op := Op.call { callee := Callee.value (Operand.func 31), args := #[Operand.tmp 93], argTypes := #[26] }, type := 4, pos := "laws.go:472", after := #[{ on := 43, ground := Ground.data }, { on := 42, ground := Ground.chain }, { on := 42, ground := Ground.guard }], guard := some (42, false) },
      { dst := some 95, op := Op.load 26 (Operand.tmp 3), type := 26, pos := "laws.go:472", after := #[{ on := 42, ground := Ground.guard }], guard := some (42, false) },
      { dst := some 96, op := Op.call { callee := Callee.value (Operand.func 32), args := #[Operand.tmp 95], argTypes := #[26] }, type := 4, pos := "laws.go:472", after := #[{ on := 45, ground := Ground.data }, { on := 44, ground := Ground.chain }, { on := 42, ground := Ground.guard }], guard := some (42, false) },
      { dst := some 97, op := Op.binOp BinOp.neq 4 (Operand.tmp 94) (Operand.tmp 96) 4, type := 4, pos := "laws.go:472", after := #[{ on := 44, ground := Ground.data }, { on := 46, ground := Ground.data }, { on := 42, ground := Ground.guard }], guard := some (42, false) },
      { dst := some 98, op := Op.pick (Operand.tmp 92) (Operand.const (Value.bool true)) (Operand.tmp 97), type := 4, pos := "laws.go:472", after := #[{ on := 42, ground := Ground.data }, { on := 47, ground := Ground.data }], guard := none },
      { dst := some 99, op := Op.move (Operand.tmp 98), type := 4, pos := "laws.go:472", after := #[{ on := 48, ground := Ground.data }, { on := 46, ground := Ground.chain }], guard := none },
      { dst := some 100, op := Op.load 26 (Operand.tmp 11), type := 26, pos := "laws.go:472", after := #[{ on := 49, ground := Ground.guard }], guard := some (49, false) },
      { dst := some 101, op := Op.load 26 (Operand.tmp 12), type := 26, pos := "laws.go:472", after := #[{ on := 49, ground := Ground.guard }], guard := some (49, false) },
      { dst := some 102, op := Op.call { callee := Callee.value (Operand.func 33), args := #[Operand.tmp 100, Operand.tmp 101], argTypes := #[26, 26] }, type := 4, pos := "laws.go:472", after := #[{ on := 50, ground := Ground.data }, { on := 51, ground := Ground.data }, { on := 49, ground := Ground.chain }, { on := 49, ground := Ground.guard }], guard := some (49, false) },
      { dst := some 103, op := Op.load 26 (Operand.tmp 11), type := 26, pos := "laws.go:472", after := #[{ on := 49, ground := Ground.guard }], guard := some (49, false) },
      { dst := some 104, op := Op.load 26 (Operand.tmp 12), type := 26, pos := "laws.go:472", after := #[{ on := 49, ground := Ground.guard }], guard := some (49, false) },
      { dst := some 105, op := Op.call { callee := Callee.value (Operand.func 34), args := #[Operand.tmp 103, Operand.tmp 104], argTypes := #[26, 26] }, type := 4, pos := "laws.go:472", after := #[{ on := 53, ground := Ground.data }, { on := 54, ground := Ground.data }, { on := 52, ground := Ground.chain }, { on := 49, ground := Ground.guard }], guard := some (49, false) },
      { dst := some 106, op := Op.binOp BinOp.neq 4 (Operand.tmp 102) (Operand.tmp 105) 4, type := 4, pos := "laws.go:472", after := #[{ on := 52, ground := Ground.data }, { on := 55, ground := Ground.data }, { on := 49, ground := Ground.guard }], guard := some (49, false) },
      { dst := some 107, op := Op.pick (Operand.tmp 99) (Operand.const (Value.bool true)) (Operand.tmp 106), type := 4, pos := "laws.go:472", after := #[{ on := 49, ground := Ground.data }, { on := 56, ground := Ground.data }], guard := none },
      { dst := some 108, op := Op.move (Operand.tmp 107), type := 4, pos := "laws.go:472", after := #[{ on := 57, ground := Ground.data }, { on := 55, ground := Ground.chain }], guard := none },
      { dst := some 109, op := Op.load 26 (Operand.tmp 11), type := 26, pos := "laws.go:472", after := #[{ on := 58, ground := Ground.guard }], guard := some (58, false) },
      { dst := some 110, op := Op.load 26 (Operand.tmp 12), type := 26, pos := "laws.go:472", after := #[{ on := 58, ground := Ground.guard }], guard := some (58, false) },
      { dst := some 111, op := Op.call { callee := Callee.value (Operand.func 35), args := #[Operand.tmp 109, Operand.tmp 110], argTypes := #[26, 26] }, type := 4, pos := "laws.go:472", after := #[{ on := 59, ground := Ground.data }, { on := 60, ground := Ground.data }, { on := 58, ground := Ground.chain }, { on := 58, ground := Ground.guard }], guard := some (58, false) },
      { dst := some 112, op := Op.load 26 (Operand.tmp 11), type := 26, pos := "laws.go:472", after := #[{ on := 58, ground := Ground.guard }], guard := some (58, false) },
      { dst := some 113, op := Op.load 26 (Operand.tmp 12), type := 26, pos := "laws.go:472", after := #[{ on := 58, ground := Ground.guard }], guard := some (58, false) },
      { dst := some 114, op := Op.call { callee := Callee.value (Operand.func 24), args := #[Operand.tmp 112, Operand.tmp 113], argTypes := #[26, 26] }, type := 4, pos := "laws.go:472", after := #[{ on := 62, ground := Ground.data }, { on := 63, ground := Ground.data }, { on := 61, ground := Ground.chain }, { on := 58, ground := Ground.guard }], guard := some (58, false) },
      { dst := some 115, op := Op.binOp BinOp.neq 4 (Operand.tmp 111) (Operand.tmp 114) 4, type := 4, pos := "laws.go:472", after := #[{ on := 61, ground := Ground.data }, { on := 64, ground := Ground.data }, { on := 58, ground := Ground.guard }], guard := some (58, false) },
      { dst := some 116, op := Op.pick (Operand.tmp 108) (Operand.const (Value.bool true)) (Operand.tmp 115), type := 4, pos := "laws.go:472", after := #[{ on := 58, ground := Ground.data }, { on := 65, ground := Ground.data }], guard := none }] true).wp Try.prog Q ⟨#[v0, v1, v2, .pointer (some ⟨bn, 0, none⟩), v4, v5, v6, .pointer (some ⟨by_, 0, none⟩), .bool ok, .pointer (some ⟨bz, 0, none⟩), .bool ok, .pointer (some ⟨ba, 0, none⟩), .pointer (some ⟨bb, 0, none⟩), .pointer (some ⟨bp, 0, none⟩), .int .i64 k, .string c, v16, v17, v18, v19, v20, v21, v22, v23, v24, v25, v26, v27, v28, v29, v30, v31, v32, v33, v34, v35, v36, v37, v38, v39, v40, v41, v42, v43, v44, v45, v46, v47, v48, v49, v50, v51, v52, v53, v54, v55, v56, v57, v58, v59, v60, v61, v62, v63, v64, v65, v66, v67, v68, v69, v70, v71, v72, v73, v74, v75, v76, v77, v78, v79, v80, v81, v82, v83, v84, v85, v86, v87, v88, v89, v90, v91, v92, v93, v94, v95, v96, v97, v98, v99, v100, v101, v102, v103, v104, v105, v106, v107, v108, v109, v110, v111, v112, v113, v114, v115, v116, v117, v118, v119, v120, v121, v122, v123, v124, v125, v126, v127, v128, v129, v130, v131, v132, v133, v134, v135, v136, v137, v138, v139, v140, v141, v142, v143, v144, v145, v146, v147, v148, v149, v150, v151, v152, v153, v154, v155, v156, v157, v158, v159, v160, v161, v162, v163, v164, v165, v166, v167, v168, v169, v170, v171, v172, v173, v174], []⟩ w := by
  have HQ := Lib.hid hQ; clear hQ
  have hdr : Below w.heap.size w w.drew := (Below.refl _ _).drew
  have Cd_n := Lib.hid (C_n.out.on hdr)
  have Cd_y := Lib.hid (C_y.out.on hdr)
  have Cd_z := Lib.hid (C_z.out.on hdr)
  have Cd_a := Lib.hid (C_a.out.on hdr)
  have Cd_b := Lib.hid (C_b.out.on hdr)
  have Cd_p := Lib.hid (C_p.out.on hdr)
  have Hd_n := Lib.hid (H_n.out.on hdr)
  have Hd_y := Lib.hid (H_y.out.on hdr)
  have Hd_z := Lib.hid (H_z.out.on hdr)
  have Hd_a := Lib.hid (H_a.out.on hdr)
  have Hd_b := Lib.hid (H_b.out.on hdr)
  have Hd_p := Lib.hid (H_p.out.on hdr)
  have BB := Lib.hid hdr; clear hdr
  refine wp_region_noPanic ?_
  refine wp_region_held_drew (S := (fun w' => w'.cell? ⟨bn, 0, none⟩ = some (.slice x_n n_n c_n) ∧ w'.cell? ⟨by_, 0, none⟩ = some (.slice x_y n_y c_y) ∧ w'.cell? ⟨bz, 0, none⟩ = some (.slice x_z n_z c_z) ∧ w'.cell? ⟨ba, 0, none⟩ = some (.slice x_a n_a c_a) ∧ w'.cell? ⟨bb, 0, none⟩ = some (.slice x_b n_b c_b) ∧ w'.cell? ⟨bp, 0, none⟩ = some (.slice x_p n_p c_p))) (by kernel_rfl) ?_ (fun hHeld => ?_)
  · exact ⟨Cd_n.out.cell, Cd_y.out.cell, Cd_z.out.cell, Cd_a.out.cell, Cd_b.out.cell, Cd_p.out.cell⟩
  refine wpAnyH_take (i := 0) (oi := { dst := some 50, op := Op.load 26 (Operand.tmp 3), type := 26, pos := "laws.go:472", after := #[], guard := none }) (v := ?_) rfl (by kernel_rfl) (by kernel_rfl) (by kernel_rfl) (fun _ _ _ h => h) (Or.inl ⟨by rfl, ?_⟩) (by assumption) ?_
  rotate_left
  · intro w' hSw; (try dsimp only at hSw); first | (go_simp; done) | (go_simp; with_reducible rfl)
  (try simp only [Act.put, List.setIfInBounds_toArray, List.set_cons_zero, List.set_cons_succ])
  refine wpAnyH_take (i := 2) (oi := { dst := some 52, op := Op.load 26 (Operand.tmp 3), type := 26, pos := "laws.go:472", after := #[], guard := none }) (v := ?_) rfl (by kernel_rfl) (by kernel_rfl) (by kernel_rfl) (fun _ _ _ h => h) (Or.inl ⟨by rfl, ?_⟩) (by assumption) ?_
  rotate_left
  · intro w' hSw; (try dsimp only at hSw); first | (go_simp; done) | (go_simp; with_reducible rfl)
  (try simp only [Act.put, List.setIfInBounds_toArray, List.set_cons_zero, List.set_cons_succ])
  refine wpAnyH_ready (rs := [1]) (by kernel_rfl) (by simp) ?_
  refine AllReadyH.cons (o := { dst := some 51, op := Op.call { callee := Callee.value (Operand.func 18), args := #[Operand.tmp 50], argTypes := #[26] }, type := 9, pos := "laws.go:472", after := #[{ on := 0, ground := Ground.data }], guard := none }) rfl (fun K hK => ?_) AllReadyH.nil
  go_simp
  refine (implFormatName _ mn _ Hd_n.out (by omega)).mono ?_
  rintro e wx ⟨rfl, hb⟩
  replace Cd_n := Lib.hid (Cd_n.out.on hb)
  replace Cd_y := Lib.hid (Cd_y.out.on hb)
  replace Cd_z := Lib.hid (Cd_z.out.on hb)
  replace Cd_a := Lib.hid (Cd_a.out.on hb)
  replace Cd_b := Lib.hid (Cd_b.out.on hb)
  replace Cd_p := Lib.hid (Cd_p.out.on hb)
  replace Hd_n := Lib.hid (Hd_n.out.on hb)
  replace Hd_y := Lib.hid (Hd_y.out.on hb)
  replace Hd_z := Lib.hid (Hd_z.out.on hb)
  replace Hd_a := Lib.hid (Hd_a.out.on hb)
  replace Hd_b := Lib.hid (Hd_b.out.on hb)
  replace Hd_p := Lib.hid (Hd_p.out.on hb)
  replace BB := Lib.hid (BB.out.trans (hb.mono BB.out.size)); clear hb
  (try go_wp2_with fail)
  clear hHeld
  refine hK.out _ _ ?_ (fun hHeld => ?_)
  · (try dsimp only); exact ⟨Cd_n.out.cell, Cd_y.out.cell, Cd_z.out.cell, Cd_a.out.cell, Cd_b.out.cell, Cd_p.out.cell⟩
  clear hK K
  (try simp only [Act.put, List.setIfInBounds_toArray, List.set_cons_zero, List.set_cons_succ])
  refine wpAnyH_ready (rs := [3]) (by kernel_rfl) (by simp) ?_
  refine AllReadyH.cons (o := { dst := some 53, op := Op.call { callee := Callee.value (Operand.func 23), args := #[Operand.tmp 52], argTypes := #[26] }, type := 9, pos := "laws.go:472", after := #[{ on := 2, ground := Ground.data }, { on := 1, ground := Ground.chain }], guard := none }) rfl (fun K hK => ?_) AllReadyH.nil
  go_simp
  refine (specFormatName _ mn _ Hd_n.out (by omega)).mono ?_
  rintro e wx ⟨rfl, hb⟩
  replace Cd_n := Lib.hid (Cd_n.out.on hb)
  replace Cd_y := Lib.hid (Cd_y.out.on hb)
  replace Cd_z := Lib.hid (Cd_z.out.on hb)
  replace Cd_a := Lib.hid (Cd_a.out.on hb)
  replace Cd_b := Lib.hid (Cd_b.out.on hb)
  replace Cd_p := Lib.hid (Cd_p.out.on hb)
  replace Hd_n := Lib.hid (Hd_n.out.on hb)
  replace Hd_y := Lib.hid (Hd_y.out.on hb)
  replace Hd_z := Lib.hid (Hd_z.out.on hb)
  replace Hd_a := Lib.hid (Hd_a.out.on hb)
  replace Hd_b := Lib.hid (Hd_b.out.on hb)
  replace Hd_p := Lib.hid (Hd_p.out.on hb)
  replace BB := Lib.hid (BB.out.trans (hb.mono BB.out.size)); clear hb
  (try go_wp2_with fail)
  clear hHeld
  refine hK.out _ _ ?_ (fun hHeld => ?_)
  · (try dsimp only); exact ⟨Cd_n.out.cell, Cd_y.out.cell, Cd_z.out.cell, Cd_a.out.cell, Cd_b.out.cell, Cd_p.out.cell⟩
  clear hK K
  (try simp only [Act.put, List.setIfInBounds_toArray, List.set_cons_zero, List.set_cons_succ])
  refine wpAnyH_take (i := 4) (oi := { dst := some 54, op := Op.binOp BinOp.neq 9 (Operand.tmp 51) (Operand.tmp 53) 9, type := 4, pos := "laws.go:472", after := #[{ on := 1, ground := Ground.data }, { on := 3, ground := Ground.data }], guard := none }) (v := ?_) rfl (by kernel_rfl) (by kernel_rfl) (by kernel_rfl) (fun _ _ _ h => h) (Or.inl ⟨by rfl, ?_⟩) (by assumption) ?_
  rotate_left
  · intro w' hSw; (try dsimp only at hSw); first | (go_simp; done) | (go_simp; with_reducible rfl)
  (try simp only [Act.put, List.setIfInBounds_toArray, List.set_cons_zero, List.set_cons_succ])
  refine wpAnyH_take (i := 5) (oi := { dst := some 55, op := Op.move (Operand.tmp 54), type := 4, pos := "laws.go:472", after := #[{ on := 4, ground := Ground.data }, { on := 3, ground := Ground.chain }], guard := none }) (v := ?_) rfl (by kernel_rfl) (by kernel_rfl) (by kernel_rfl) (fun _ _ _ h => h) (Or.inl ⟨by rfl, ?_⟩) (by assumption) ?_
  rotate_left
  · intro w' hSw; (try dsimp only at hSw); first | (go_simp; done) | (go_simp; with_reducible rfl)
  (try simp only [Act.put, List.setIfInBounds_toArray, List.set_cons_zero, List.set_cons_succ])
  refine wpAnyH_take (i := 6) (oi := { dst := some 56, op := Op.load 26 (Operand.tmp 7), type := 26, pos := "laws.go:472", after := #[{ on := 5, ground := Ground.guard }], guard := some (5, false) }) (v := ?_) rfl (by kernel_rfl) (by kernel_rfl) (by kernel_rfl) (fun _ _ _ h => h) (Or.inl ⟨by rfl, ?_⟩) (by assumption) ?_
  rotate_left
  · intro w' hSw; (try dsimp only at hSw); first | (go_simp; done) | (go_simp; with_reducible rfl)
  (try simp only [Act.put, List.setIfInBounds_toArray, List.set_cons_zero, List.set_cons_succ])
  refine wpAnyH_take (i := 7) (oi := { dst := some 57, op := Op.load 26 (Operand.tmp 9), type := 26, pos := "laws.go:472", after := #[{ on := 5, ground := Ground.guard }], guard := some (5, false) }) (v := ?_) rfl (by kernel_rfl) (by kernel_rfl) (by kernel_rfl) (fun _ _ _ h => h) (Or.inl ⟨by rfl, ?_⟩) (by assumption) ?_
  rotate_left
  · intro w' hSw; (try dsimp only at hSw); first | (go_simp; done) | (go_simp; with_reducible rfl)
  (try simp only [Act.put, List.setIfInBounds_toArray, List.set_cons_zero, List.set_cons_succ])
  refine wpAnyH_ready (rs := [8]) (by kernel_rfl) (by simp) ?_
  refine AllReadyH.cons (o := { dst := some 58, op := Op.call { callee := Callee.value (Operand.func 24), args := #[Operand.tmp 56, Operand.tmp 57], argTypes := #[26, 26] }, type := 4, pos := "laws.go:472", after := #[{ on := 6, ground := Ground.data }, { on := 7, ground := Ground.data }, { on := 5, ground := Ground.chain }, { on := 5, ground := Ground.guard }], guard := some (5, false) }) rfl (fun K hK => ?_) AllReadyH.nil
  go_simp
  refine (sameNameT _ _ my _ Hd_y.out Hd_z.out (by omega)).mono ?_
  rintro e wx ⟨rfl, hb⟩
  replace Cd_n := Lib.hid (Cd_n.out.on hb)
  replace Cd_y := Lib.hid (Cd_y.out.on hb)
  replace Cd_z := Lib.hid (Cd_z.out.on hb)
  replace Cd_a := Lib.hid (Cd_a.out.on hb)
  replace Cd_b := Lib.hid (Cd_b.out.on hb)
  replace Cd_p := Lib.hid (Cd_p.out.on hb)
  replace Hd_n := Lib.hid (Hd_n.out.on hb)
  replace Hd_y := Lib.hid (Hd_y.out.on hb)
  replace Hd_z := Lib.hid (Hd_z.out.on hb)
  replace Hd_a := Lib.hid (Hd_a.out.on hb)
  replace Hd_b := Lib.hid (Hd_b.out.on hb)
  replace Hd_p := Lib.hid (Hd_p.out.on hb)
  replace BB := Lib.hid (BB.out.trans (hb.mono BB.out.size)); clear hb
  (try go_wp2_with fail)
  clear hHeld
  refine hK.out _ _ ?_ (fun hHeld => ?_)
  · (try dsimp only); exact ⟨Cd_n.out.cell, Cd_y.out.cell, Cd_z.out.cell, Cd_a.out.cell, Cd_b.out.cell, Cd_p.out.cell⟩
  clear hK K
  (try simp only [Act.put, List.setIfInBounds_toArray, List.set_cons_zero, List.set_cons_succ])
  refine wpAnyH_take (i := 9) (oi := { dst := some 59, op := Op.unOp UnOp.not 4 (Operand.tmp 58), type := 4, pos := "laws.go:472", after := #[{ on := 8, ground := Ground.data }, { on := 5, ground := Ground.guard }], guard := some (5, false) }) (v := ?_) rfl (by kernel_rfl) (by kernel_rfl) (by kernel_rfl) (fun _ _ _ h => h) (Or.inl ⟨by rfl, ?_⟩) (by assumption) ?_
  rotate_left
  · intro w' hSw; (try dsimp only at hSw); first | (go_simp; done) | (go_simp; with_reducible rfl)
  (try simp only [Act.put, List.setIfInBounds_toArray, List.set_cons_zero, List.set_cons_succ])
  refine wpAnyH_take (i := 10) (oi := { dst := some 60, op := Op.pick (Operand.tmp 55) (Operand.const (Value.bool true)) (Operand.tmp 59), type := 4, pos := "laws.go:472", after := #[{ on := 5, ground := Ground.data }, { on := 9, ground := Ground.data }], guard := none }) (v := ?_) rfl (by kernel_rfl) (by kernel_rfl) (by kernel_rfl) (fun _ _ _ h => h) (Or.inl ⟨by rfl, ?_⟩) (by assumption) ?_
  rotate_left
  · intro w' hSw; (try dsimp only at hSw); first | (go_simp; done) | (go_simp; with_reducible rfl)
  (try simp only [Act.put, List.setIfInBounds_toArray, List.set_cons_zero, List.set_cons_succ])
  refine wpAnyH_take (i := 11) (oi := { dst := some 61, op := Op.move (Operand.tmp 60), type := 4, pos := "laws.go:472", after := #[{ on := 10, ground := Ground.data }, { on := 8, ground := Ground.chain }], guard := none }) (v := ?_) rfl (by kernel_rfl) (by kernel_rfl) (by kernel_rfl) (fun _ _ _ h => h) (Or.inl ⟨by rfl, ?_⟩) (by assumption) ?_
  rotate_left
  · intro w' hSw; (try dsimp only at hSw); first | (go_simp; done) | (go_simp; with_reducible rfl)
  (try simp only [Act.put, List.setIfInBounds_toArray, List.set_cons_zero, List.set_cons_succ])
  refine wpAnyH_take (i := 12) (oi := { dst := some 62, op := Op.move (Operand.tmp 8), type := 4, pos := "laws.go:472", after := #[{ on := 11, ground := Ground.guard }], guard := some (11, false) }) (v := ?_) rfl (by kernel_rfl) (by kernel_rfl) (by kernel_rfl) (fun _ _ _ h => h) (Or.inl ⟨by rfl, ?_⟩) (by assumption) ?_
  rotate_left
  · intro w' hSw; (try dsimp only at hSw); first | (go_simp; done) | (go_simp; with_reducible rfl)
  (try simp only [Act.put, List.setIfInBounds_toArray, List.set_cons_zero, List.set_cons_succ])
  refine wpAnyH_take (i := 13) (oi := { dst := some 63, op := Op.move (Operand.tmp 10), type := 4, pos := "laws.go:472", after := #[{ on := 11, ground := Ground.guard }], guard := some (11, false) }) (v := ?_) rfl (by kernel_rfl) (by kernel_rfl) (by kernel_rfl) (fun _ _ _ h => h) (Or.inl ⟨by rfl, ?_⟩) (by assumption) ?_
  rotate_left
  · intro w' hSw; (try dsimp only at hSw); first | (go_simp; done) | (go_simp; with_reducible rfl)
  (try simp only [Act.put, List.setIfInBounds_toArray, List.set_cons_zero, List.set_cons_succ])
  refine wpAnyH_take (i := 14) (oi := { dst := some 64, op := Op.binOp BinOp.neq 4 (Operand.tmp 62) (Operand.tmp 63) 4, type := 4, pos := "laws.go:472", after := #[{ on := 12, ground := Ground.data }, { on := 13, ground := Ground.data }, { on := 11, ground := Ground.guard }], guard := some (11, false) }) (v := ?_) rfl (by kernel_rfl) (by kernel_rfl) (by kernel_rfl) (fun _ _ _ h => h) (Or.inl ⟨by rfl, ?_⟩) (by assumption) ?_
  rotate_left
  · intro w' hSw; (try dsimp only at hSw); first | (go_simp; done) | (go_simp; with_reducible rfl)
  (try simp only [Act.put, List.setIfInBounds_toArray, List.set_cons_zero, List.set_cons_succ])
  refine wpAnyH_take (i := 15) (oi := { dst := some 65, op := Op.pick (Operand.tmp 61) (Operand.const (Value.bool true)) (Operand.tmp 64), type := 4, pos := "laws.go:472", after := #[{ on := 11, ground := Ground.data }, { on := 14, ground := Ground.data }], guard := none }) (v := ?_) rfl (by kernel_rfl) (by kernel_rfl) (by kernel_rfl) (fun _ _ _ h => h) (Or.inl ⟨by rfl, ?_⟩) (by assumption) ?_
  rotate_left
  · intro w' hSw; (try dsimp only at hSw); first | (go_simp; done) | (go_simp; with_reducible rfl)
  (try simp only [Act.put, List.setIfInBounds_toArray, List.set_cons_zero, List.set_cons_succ])
  refine wpAnyH_take (i := 16) (oi := { dst := some 66, op := Op.move (Operand.tmp 65), type := 4, pos := "laws.go:472", after := #[{ on := 15, ground := Ground.data }, { on := 11, ground := Ground.chain }], guard := none }) (v := ?_) rfl (by kernel_rfl) (by kernel_rfl) (by kernel_rfl) (fun _ _ _ h => h) (Or.inl ⟨by rfl, ?_⟩) (by assumption) ?_
  rotate_left
  · intro w' hSw; (try dsimp only at hSw); first | (go_simp; done) | (go_simp; with_reducible rfl)
  (try simp only [Act.put, List.setIfInBounds_toArray, List.set_cons_zero, List.set_cons_succ])
  refine wpAnyH_take (i := 17) (oi := { dst := some 67, op := Op.load 26 (Operand.tmp 11), type := 26, pos := "laws.go:472", after := #[{ on := 16, ground := Ground.guard }], guard := some (16, false) }) (v := ?_) rfl (by kernel_rfl) (by kernel_rfl) (by kernel_rfl) (fun _ _ _ h => h) (Or.inl ⟨by rfl, ?_⟩) (by assumption) ?_
  rotate_left
  · intro w' hSw; (try dsimp only at hSw); first | (go_simp; done) | (go_simp; with_reducible rfl)
  (try simp only [Act.put, List.setIfInBounds_toArray, List.set_cons_zero, List.set_cons_succ])
  refine wpAnyH_take (i := 18) (oi := { dst := some 68, op := Op.load 26 (Operand.tmp 12), type := 26, pos := "laws.go:472", after := #[{ on := 16, ground := Ground.guard }], guard := some (16, false) }) (v := ?_) rfl (by kernel_rfl) (by kernel_rfl) (by kernel_rfl) (fun _ _ _ h => h) (Or.inl ⟨by rfl, ?_⟩) (by assumption) ?_
  rotate_left
  · intro w' hSw; (try dsimp only at hSw); first | (go_simp; done) | (go_simp; with_reducible rfl)
  (try simp only [Act.put, List.setIfInBounds_toArray, List.set_cons_zero, List.set_cons_succ])
  refine wpAnyH_take (i := 20) (oi := { dst := some 70, op := Op.load 26 (Operand.tmp 11), type := 26, pos := "laws.go:472", after := #[{ on := 16, ground := Ground.guard }], guard := some (16, false) }) (v := ?_) rfl (by kernel_rfl) (by kernel_rfl) (by kernel_rfl) (fun _ _ _ h => h) (Or.inl ⟨by rfl, ?_⟩) (by assumption) ?_
  rotate_left
  · intro w' hSw; (try dsimp only at hSw); first | (go_simp; done) | (go_simp; with_reducible rfl)
  (try simp only [Act.put, List.setIfInBounds_toArray, List.set_cons_zero, List.set_cons_succ])
  refine wpAnyH_take (i := 21) (oi := { dst := some 71, op := Op.load 26 (Operand.tmp 12), type := 26, pos := "laws.go:472", after := #[{ on := 16, ground := Ground.guard }], guard := some (16, false) }) (v := ?_) rfl (by kernel_rfl) (by kernel_rfl) (by kernel_rfl) (fun _ _ _ h => h) (Or.inl ⟨by rfl, ?_⟩) (by assumption) ?_
  rotate_left
  · intro w' hSw; (try dsimp only at hSw); first | (go_simp; done) | (go_simp; with_reducible rfl)
  (try simp only [Act.put, List.setIfInBounds_toArray, List.set_cons_zero, List.set_cons_succ])
  refine wpAnyH_ready (rs := [19]) (by kernel_rfl) (by simp) ?_
  refine AllReadyH.cons (o := { dst := some 69, op := Op.call { callee := Callee.value (Operand.func 25), args := #[Operand.tmp 67, Operand.tmp 68], argTypes := #[26, 26] }, type := 3, pos := "laws.go:472", after := #[{ on := 17, ground := Ground.data }, { on := 18, ground := Ground.data }, { on := 16, ground := Ground.chain }, { on := 16, ground := Ground.guard }], guard := some (16, false) }) rfl (fun K hK => ?_) AllReadyH.nil
  go_simp
  refine (implCompareNames _ _ ma mb _ Hd_a.out Hd_b.out (by omega) (by omega)).mono ?_
  rintro e wx ⟨rfl, hb⟩
  replace Cd_n := Lib.hid (Cd_n.out.on hb)
  replace Cd_y := Lib.hid (Cd_y.out.on hb)
  replace Cd_z := Lib.hid (Cd_z.out.on hb)
  replace Cd_a := Lib.hid (Cd_a.out.on hb)
  replace Cd_b := Lib.hid (Cd_b.out.on hb)
  replace Cd_p := Lib.hid (Cd_p.out.on hb)
  replace Hd_n := Lib.hid (Hd_n.out.on hb)
  replace Hd_y := Lib.hid (Hd_y.out.on hb)
  replace Hd_z := Lib.hid (Hd_z.out.on hb)
  replace Hd_a := Lib.hid (Hd_a.out.on hb)
  replace Hd_b := Lib.hid (Hd_b.out.on hb)
  replace Hd_p := Lib.hid (Hd_p.out.on hb)
  replace BB := Lib.hid (BB.out.trans (hb.mono BB.out.size)); clear hb
  (try go_wp2_with fail)
  clear hHeld
  refine hK.out _ _ ?_ (fun hHeld => ?_)
  · (try dsimp only); exact ⟨Cd_n.out.cell, Cd_y.out.cell, Cd_z.out.cell, Cd_a.out.cell, Cd_b.out.cell, Cd_p.out.cell⟩
  clear hK K
  (try simp only [Act.put, List.setIfInBounds_toArray, List.set_cons_zero, List.set_cons_succ])
  refine wpAnyH_ready (rs := [22]) (by kernel_rfl) (by simp) ?_
  refine AllReadyH.cons (o := { dst := some 72, op := Op.call { callee := Callee.value (Operand.func 26), args := #[Operand.tmp 70, Operand.tmp 71], argTypes := #[26, 26] }, type := 3, pos := "laws.go:472", after := #[{ on := 20, ground := Ground.data }, { on := 21, ground := Ground.data }, { on := 19, ground := Ground.chain }, { on := 16, ground := Ground.guard }], guard := some (16, false) }) rfl (fun K hK => ?_) AllReadyH.nil
  go_simp
  refine (specCompareNames _ _ ma mb _ Hd_a.out Hd_b.out (by omega) (by omega)).mono ?_
  rintro e wx ⟨rfl, hb⟩
  replace Cd_n := Lib.hid (Cd_n.out.on hb)
  replace Cd_y := Lib.hid (Cd_y.out.on hb)
  replace Cd_z := Lib.hid (Cd_z.out.on hb)
  replace Cd_a := Lib.hid (Cd_a.out.on hb)
  replace Cd_b := Lib.hid (Cd_b.out.on hb)
  replace Cd_p := Lib.hid (Cd_p.out.on hb)
  replace Hd_n := Lib.hid (Hd_n.out.on hb)
  replace Hd_y := Lib.hid (Hd_y.out.on hb)
  replace Hd_z := Lib.hid (Hd_z.out.on hb)
  replace Hd_a := Lib.hid (Hd_a.out.on hb)
  replace Hd_b := Lib.hid (Hd_b.out.on hb)
  replace Hd_p := Lib.hid (Hd_p.out.on hb)
  replace BB := Lib.hid (BB.out.trans (hb.mono BB.out.size)); clear hb
  (try go_wp2_with fail)
  clear hHeld
  refine hK.out _ _ ?_ (fun hHeld => ?_)
  · (try dsimp only); exact ⟨Cd_n.out.cell, Cd_y.out.cell, Cd_z.out.cell, Cd_a.out.cell, Cd_b.out.cell, Cd_p.out.cell⟩
  clear hK K
  (try simp only [Act.put, List.setIfInBounds_toArray, List.set_cons_zero, List.set_cons_succ])
  refine wpAnyH_take (i := 23) (oi := { dst := some 73, op := Op.binOp BinOp.neq 3 (Operand.tmp 69) (Operand.tmp 72) 3, type := 4, pos := "laws.go:472", after := #[{ on := 19, ground := Ground.data }, { on := 22, ground := Ground.data }, { on := 16, ground := Ground.guard }], guard := some (16, false) }) (v := ?_) rfl (by kernel_rfl) (by kernel_rfl) (by kernel_rfl) (fun _ _ _ h => h) (Or.inl ⟨by rfl, ?_⟩) (by assumption) ?_
  rotate_left
  · intro w' hSw; (try dsimp only at hSw); first | (go_simp; done) | (go_simp; with_reducible rfl)
  (try simp only [Act.put, List.setIfInBounds_toArray, List.set_cons_zero, List.set_cons_succ])
  refine wpAnyH_take (i := 24) (oi := { dst := some 74, op := Op.pick (Operand.tmp 66) (Operand.const (Value.bool true)) (Operand.tmp 73), type := 4, pos := "laws.go:472", after := #[{ on := 16, ground := Ground.data }, { on := 23, ground := Ground.data }], guard := none }) (v := ?_) rfl (by kernel_rfl) (by kernel_rfl) (by kernel_rfl) (fun _ _ _ h => h) (Or.inl ⟨by rfl, ?_⟩) (by assumption) ?_
  rotate_left
  · intro w' hSw; (try dsimp only at hSw); first | (go_simp; done) | (go_simp; with_reducible rfl)
  (try simp only [Act.put, List.setIfInBounds_toArray, List.set_cons_zero, List.set_cons_succ])
  refine wpAnyH_take (i := 25) (oi := { dst := some 75, op := Op.move (Operand.tmp 74), type := 4, pos := "laws.go:472", after := #[{ on := 24, ground := Ground.data }, { on := 22, ground := Ground.chain }], guard := none }) (v := ?_) rfl (by kernel_rfl) (by kernel_rfl) (by kernel_rfl) (fun _ _ _ h => h) (Or.inl ⟨by rfl, ?_⟩) (by assumption) ?_
  rotate_left
  · intro w' hSw; (try dsimp only at hSw); first | (go_simp; done) | (go_simp; with_reducible rfl)
  (try simp only [Act.put, List.setIfInBounds_toArray, List.set_cons_zero, List.set_cons_succ])
  refine wpAnyH_take (i := 26) (oi := { dst := some 76, op := Op.load 26 (Operand.tmp 13), type := 26, pos := "laws.go:472", after := #[{ on := 25, ground := Ground.guard }], guard := some (25, false) }) (v := ?_) rfl (by kernel_rfl) (by kernel_rfl) (by kernel_rfl) (fun _ _ _ h => h) (Or.inl ⟨by rfl, ?_⟩) (by assumption) ?_
  rotate_left
  · intro w' hSw; (try dsimp only at hSw); first | (go_simp; done) | (go_simp; with_reducible rfl)
  (try simp only [Act.put, List.setIfInBounds_toArray, List.set_cons_zero, List.set_cons_succ])
  refine wpAnyH_take (i := 27) (oi := { dst := some 77, op := Op.move (Operand.tmp 14), type := 3, pos := "laws.go:472", after := #[{ on := 25, ground := Ground.guard }], guard := some (25, false) }) (v := ?_) rfl (by kernel_rfl) (by kernel_rfl) (by kernel_rfl) (fun _ _ _ h => h) (Or.inl ⟨by rfl, ?_⟩) (by assumption) ?_
  rotate_left
  · intro w' hSw; (try dsimp only at hSw); first | (go_simp; done) | (go_simp; with_reducible rfl)
  (try simp only [Act.put, List.setIfInBounds_toArray, List.set_cons_zero, List.set_cons_succ])
  refine wpAnyH_take (i := 29) (oi := { dst := some 79, op := Op.load 26 (Operand.tmp 13), type := 26, pos := "laws.go:472", after := #[{ on := 25, ground := Ground.guard }], guard := some (25, false) }) (v := ?_) rfl (by kernel_rfl) (by kernel_rfl) (by kernel_rfl) (fun _ _ _ h => h) (Or.inl ⟨by rfl, ?_⟩) (by assumption) ?_
  rotate_left
  · intro w' hSw; (try dsimp only at hSw); first | (go_simp; done) | (go_simp; with_reducible rfl)
  (try simp only [Act.put, List.setIfInBounds_toArray, List.set_cons_zero, List.set_cons_succ])
  refine wpAnyH_take (i := 30) (oi := { dst := some 80, op := Op.move (Operand.tmp 14), type := 3, pos := "laws.go:472", after := #[{ on := 25, ground := Ground.guard }], guard := some (25, false) }) (v := ?_) rfl (by kernel_rfl) (by kernel_rfl) (by kernel_rfl) (fun _ _ _ h => h) (Or.inl ⟨by rfl, ?_⟩) (by assumption) ?_
  rotate_left
  · intro w' hSw; (try dsimp only at hSw); first | (go_simp; done) | (go_simp; with_reducible rfl)
  (try simp only [Act.put, List.setIfInBounds_toArray, List.set_cons_zero, List.set_cons_succ])
  refine wpAnyH_ready (rs := [28]) (by kernel_rfl) (by simp) ?_
  refine AllReadyH.cons (o := { dst := some 78, op := Op.call { callee := Callee.value (Operand.func 27), args := #[Operand.tmp 76, Operand.tmp 77], argTypes := #[26, 3] }, type := 26, pos := "laws.go:472", after := #[{ on := 26, ground := Ground.data }, { on := 27, ground := Ground.data }, { on := 25, ground := Ground.chain }, { on := 25, ground := Ground.guard }], guard := some (25, false) }) rfl (fun K hK => ?_) AllReadyH.nil
  go_simp
  refine (implTruncate _ mp k _ Hd_p.out (by omega)).mono ?_
  rintro e wx ⟨u8_, rfl, ho_t, hb⟩
  obtain ⟨x_t, n_t, c_t, rfl, -, -, ho_t⟩ := ho_t.shapeN
  have H_t := Lib.hid ho_t.holds; clear ho_t
  replace Cd_n := Lib.hid (Cd_n.out.on hb)
  replace Cd_y := Lib.hid (Cd_y.out.on hb)
  replace Cd_z := Lib.hid (Cd_z.out.on hb)
  replace Cd_a := Lib.hid (Cd_a.out.on hb)
  replace Cd_b := Lib.hid (Cd_b.out.on hb)
  replace Cd_p := Lib.hid (Cd_p.out.on hb)
  replace Hd_n := Lib.hid (Hd_n.out.on hb)
  replace Hd_y := Lib.hid (Hd_y.out.on hb)
  replace Hd_z := Lib.hid (Hd_z.out.on hb)
  replace Hd_a := Lib.hid (Hd_a.out.on hb)
  replace Hd_b := Lib.hid (Hd_b.out.on hb)
  replace Hd_p := Lib.hid (Hd_p.out.on hb)
  replace BB := Lib.hid (BB.out.trans (hb.mono BB.out.size)); clear hb
  (try go_wp2_with fail)
  clear hHeld
  refine hK.out _ _ ?_ (fun hHeld => ?_)
  · (try dsimp only); exact ⟨Cd_n.out.cell, Cd_y.out.cell, Cd_z.out.cell, Cd_a.out.cell, Cd_b.out.cell, Cd_p.out.cell⟩
  clear hK K
  (try simp only [Act.put, List.setIfInBounds_toArray, List.set_cons_zero, List.set_cons_succ])
  refine wpAnyH_ready (rs := [31]) (by kernel_rfl) (by simp) ?_
  refine AllReadyH.cons (o := { dst := some 81, op := Op.call { callee := Callee.value (Operand.func 28), args := #[Operand.tmp 79, Operand.tmp 80], argTypes := #[26, 3] }, type := 26, pos := "laws.go:472", after := #[{ on := 29, ground := Ground.data }, { on := 30, ground := Ground.data }, { on := 28, ground := Ground.chain }, { on := 25, ground := Ground.guard }], guard := some (25, false) }) rfl (fun K hK => ?_) AllReadyH.nil
  go_simp
  refine (specTruncate _ mp k _ Hd_p.out (by omega)).mono ?_
  rintro e wx ⟨u9_, rfl, ho_u, hb⟩
  obtain ⟨x_u, n_u, c_u, rfl, -, -, ho_u⟩ := ho_u.shapeN
  replace H_t := Lib.hid (H_t.out.on hb); have H_u := Lib.hid ho_u.holds; clear ho_u
  replace Cd_n := Lib.hid (Cd_n.out.on hb)
  replace Cd_y := Lib.hid (Cd_y.out.on hb)
  replace Cd_z := Lib.hid (Cd_z.out.on hb)
  replace Cd_a := Lib.hid (Cd_a.out.on hb)
  replace Cd_b := Lib.hid (Cd_b.out.on hb)
  replace Cd_p := Lib.hid (Cd_p.out.on hb)
  replace Hd_n := Lib.hid (Hd_n.out.on hb)
  replace Hd_y := Lib.hid (Hd_y.out.on hb)
  replace Hd_z := Lib.hid (Hd_z.out.on hb)
  replace Hd_a := Lib.hid (Hd_a.out.on hb)
  replace Hd_b := Lib.hid (Hd_b.out.on hb)
  replace Hd_p := Lib.hid (Hd_p.out.on hb)
  replace BB := Lib.hid (BB.out.trans (hb.mono BB.out.size)); clear hb
  (try go_wp2_with fail)
  clear hHeld
  refine hK.out _ _ ?_ (fun hHeld => ?_)
  · (try dsimp only); exact ⟨Cd_n.out.cell, Cd_y.out.cell, Cd_z.out.cell, Cd_a.out.cell, Cd_b.out.cell, Cd_p.out.cell⟩
  clear hK K
  (try simp only [Act.put, List.setIfInBounds_toArray, List.set_cons_zero, List.set_cons_succ])
  refine wpAnyH_ready (rs := [32]) (by kernel_rfl) (by simp) ?_
  refine AllReadyH.cons (o := { dst := some 82, op := Op.call { callee := Callee.value (Operand.func 24), args := #[Operand.tmp 78, Operand.tmp 81], argTypes := #[26, 26] }, type := 4, pos := "laws.go:472", after := #[{ on := 28, ground := Ground.data }, { on := 31, ground := Ground.data }, { on := 31, ground := Ground.chain }, { on := 25, ground := Ground.guard }], guard := some (25, false) }) rfl (fun K hK => ?_) AllReadyH.nil
  go_simp
  refine (sameNameT _ _ (trN mp k) _ H_t.out H_u.out (by omega)).mono ?_
  rintro e wx ⟨rfl, hb⟩
  replace Cd_n := Lib.hid (Cd_n.out.on hb)
  replace Cd_y := Lib.hid (Cd_y.out.on hb)
  replace Cd_z := Lib.hid (Cd_z.out.on hb)
  replace Cd_a := Lib.hid (Cd_a.out.on hb)
  replace Cd_b := Lib.hid (Cd_b.out.on hb)
  replace Cd_p := Lib.hid (Cd_p.out.on hb)
  replace Hd_n := Lib.hid (Hd_n.out.on hb)
  replace Hd_y := Lib.hid (Hd_y.out.on hb)
  replace Hd_z := Lib.hid (Hd_z.out.on hb)
  replace Hd_a := Lib.hid (Hd_a.out.on hb)
  replace Hd_b := Lib.hid (Hd_b.out.on hb)
  replace Hd_p := Lib.hid (Hd_p.out.on hb)
  replace BB := Lib.hid (BB.out.trans (hb.mono BB.out.size)); clear hb
  (try go_wp2_with fail)
  clear hHeld
  refine hK.out _ _ ?_ (fun hHeld => ?_)
  · (try dsimp only); exact ⟨Cd_n.out.cell, Cd_y.out.cell, Cd_z.out.cell, Cd_a.out.cell, Cd_b.out.cell, Cd_p.out.cell⟩
  clear hK K
  (try simp only [Act.put, List.setIfInBounds_toArray, List.set_cons_zero, List.set_cons_succ])
  refine wpAnyH_take (i := 33) (oi := { dst := some 83, op := Op.unOp UnOp.not 4 (Operand.tmp 82), type := 4, pos := "laws.go:472", after := #[{ on := 32, ground := Ground.data }, { on := 25, ground := Ground.guard }], guard := some (25, false) }) (v := ?_) rfl (by kernel_rfl) (by kernel_rfl) (by kernel_rfl) (fun _ _ _ h => h) (Or.inl ⟨by rfl, ?_⟩) (by assumption) ?_
  rotate_left
  · intro w' hSw; (try dsimp only at hSw); first | (go_simp; done) | (go_simp; with_reducible rfl)
  (try simp only [Act.put, List.setIfInBounds_toArray, List.set_cons_zero, List.set_cons_succ])
  refine wpAnyH_take (i := 34) (oi := { dst := some 84, op := Op.pick (Operand.tmp 75) (Operand.const (Value.bool true)) (Operand.tmp 83), type := 4, pos := "laws.go:472", after := #[{ on := 25, ground := Ground.data }, { on := 33, ground := Ground.data }], guard := none }) (v := ?_) rfl (by kernel_rfl) (by kernel_rfl) (by kernel_rfl) (fun _ _ _ h => h) (Or.inl ⟨by rfl, ?_⟩) (by assumption) ?_
  rotate_left
  · intro w' hSw; (try dsimp only at hSw); first | (go_simp; done) | (go_simp; with_reducible rfl)
  (try simp only [Act.put, List.setIfInBounds_toArray, List.set_cons_zero, List.set_cons_succ])
  refine wpAnyH_take (i := 35) (oi := { dst := some 85, op := Op.move (Operand.tmp 84), type := 4, pos := "laws.go:472", after := #[{ on := 34, ground := Ground.data }, { on := 32, ground := Ground.chain }], guard := none }) (v := ?_) rfl (by kernel_rfl) (by kernel_rfl) (by kernel_rfl) (fun _ _ _ h => h) (Or.inl ⟨by rfl, ?_⟩) (by assumption) ?_
  rotate_left
  · intro w' hSw; (try dsimp only at hSw); first | (go_simp; done) | (go_simp; with_reducible rfl)
  (try simp only [Act.put, List.setIfInBounds_toArray, List.set_cons_zero, List.set_cons_succ])
  refine wpAnyH_take (i := 36) (oi := { dst := some 86, op := Op.move (Operand.tmp 15), type := 9, pos := "laws.go:472", after := #[{ on := 35, ground := Ground.guard }], guard := some (35, false) }) (v := ?_) rfl (by kernel_rfl) (by kernel_rfl) (by kernel_rfl) (fun _ _ _ h => h) (Or.inl ⟨by rfl, ?_⟩) (by assumption) ?_
  rotate_left
  · intro w' hSw; (try dsimp only at hSw); first | (go_simp; done) | (go_simp; with_reducible rfl)
  (try simp only [Act.put, List.setIfInBounds_toArray, List.set_cons_zero, List.set_cons_succ])
  refine wpAnyH_take (i := 38) (oi := { dst := some 88, op := Op.move (Operand.tmp 15), type := 9, pos := "laws.go:472", after := #[{ on := 35, ground := Ground.guard }], guard := some (35, false) }) (v := ?_) rfl (by kernel_rfl) (by kernel_rfl) (by kernel_rfl) (fun _ _ _ h => h) (Or.inl ⟨by rfl, ?_⟩) (by assumption) ?_
  rotate_left
  · intro w' hSw; (try dsimp only at hSw); first | (go_simp; done) | (go_simp; with_reducible rfl)
  (try simp only [Act.put, List.setIfInBounds_toArray, List.set_cons_zero, List.set_cons_succ])
  refine wpAnyH_ready (rs := [37]) (by kernel_rfl) (by simp) ?_
  refine AllReadyH.cons (o := { dst := some 87, op := Op.call { callee := Callee.value (Operand.func 29), args := #[Operand.tmp 86], argTypes := #[9] }, type := 4, pos := "laws.go:472", after := #[{ on := 36, ground := Ground.data }, { on := 35, ground := Ground.chain }, { on := 35, ground := Ground.guard }], guard := some (35, false) }) rfl (fun K hK => ?_) AllReadyH.nil
  go_simp
  refine (implValidPart c _ (by omega)).mono ?_
  rintro e wx ⟨rfl, hb⟩
  replace Cd_n := Lib.hid (Cd_n.out.on hb)
  replace Cd_y := Lib.hid (Cd_y.out.on hb)
  replace Cd_z := Lib.hid (Cd_z.out.on hb)
  replace Cd_a := Lib.hid (Cd_a.out.on hb)
  replace Cd_b := Lib.hid (Cd_b.out.on hb)
  replace Cd_p := Lib.hid (Cd_p.out.on hb)
  replace Hd_n := Lib.hid (Hd_n.out.on hb)
  replace Hd_y := Lib.hid (Hd_y.out.on hb)
  replace Hd_z := Lib.hid (Hd_z.out.on hb)
  replace Hd_a := Lib.hid (Hd_a.out.on hb)
  replace Hd_b := Lib.hid (Hd_b.out.on hb)
  replace Hd_p := Lib.hid (Hd_p.out.on hb)
  replace BB := Lib.hid (BB.out.trans (hb.mono BB.out.size)); clear hb
  (try go_wp2_with fail)
  clear hHeld
  refine hK.out _ _ ?_ (fun hHeld => ?_)
  · (try dsimp only); exact ⟨Cd_n.out.cell, Cd_y.out.cell, Cd_z.out.cell, Cd_a.out.cell, Cd_b.out.cell, Cd_p.out.cell⟩
  clear hK K
  (try simp only [Act.put, List.setIfInBounds_toArray, List.set_cons_zero, List.set_cons_succ])
  refine wpAnyH_ready (rs := [39]) (by kernel_rfl) (by simp) ?_
  refine AllReadyH.cons (o := { dst := some 89, op := Op.call { callee := Callee.value (Operand.func 30), args := #[Operand.tmp 88], argTypes := #[9] }, type := 4, pos := "laws.go:472", after := #[{ on := 38, ground := Ground.data }, { on := 37, ground := Ground.chain }, { on := 35, ground := Ground.guard }], guard := some (35, false) }) rfl (fun K hK => ?_) AllReadyH.nil
  go_simp
  refine (specValidPart c _ (by omega)).mono ?_
  rintro e wx ⟨rfl, rfl⟩
  (try go_wp2_with fail)
  clear hHeld
  refine hK.out _ _ ?_ (fun hHeld => ?_)
  · (try dsimp only); exact ⟨Cd_n.out.cell, Cd_y.out.cell, Cd_z.out.cell, Cd_a.out.cell, Cd_b.out.cell, Cd_p.out.cell⟩
  clear hK K
  (try simp only [Act.put, List.setIfInBounds_toArray, List.set_cons_zero, List.set_cons_succ])
  refine wpAnyH_take (i := 40) (oi := { dst := some 90, op := Op.binOp BinOp.neq 4 (Operand.tmp 87) (Operand.tmp 89) 4, type := 4, pos := "laws.go:472", after := #[{ on := 37, ground := Ground.data }, { on := 39, ground := Ground.data }, { on := 35, ground := Ground.guard }], guard := some (35, false) }) (v := ?_) rfl (by kernel_rfl) (by kernel_rfl) (by kernel_rfl) (fun _ _ _ h => h) (Or.inl ⟨by rfl, ?_⟩) (by assumption) ?_
  rotate_left
  · intro w' hSw; (try dsimp only at hSw); first | (go_simp; done) | (go_simp; with_reducible rfl)
  (try simp only [Act.put, List.setIfInBounds_toArray, List.set_cons_zero, List.set_cons_succ])
  refine wpAnyH_take (i := 41) (oi := { dst := some 91, op := Op.pick (Operand.tmp 85) (Operand.const (Value.bool true)) (Operand.tmp 90), type := 4, pos := "laws.go:472", after := #[{ on := 35, ground := Ground.data }, { on := 40, ground := Ground.data }], guard := none }) (v := ?_) rfl (by kernel_rfl) (by kernel_rfl) (by kernel_rfl) (fun _ _ _ h => h) (Or.inl ⟨by rfl, ?_⟩) (by assumption) ?_
  rotate_left
  · intro w' hSw; (try dsimp only at hSw); first | (go_simp; done) | (go_simp; with_reducible rfl)
  (try simp only [Act.put, List.setIfInBounds_toArray, List.set_cons_zero, List.set_cons_succ])
  refine wpAnyH_take (i := 42) (oi := { dst := some 92, op := Op.move (Operand.tmp 91), type := 4, pos := "laws.go:472", after := #[{ on := 41, ground := Ground.data }, { on := 39, ground := Ground.chain }], guard := none }) (v := ?_) rfl (by kernel_rfl) (by kernel_rfl) (by kernel_rfl) (fun _ _ _ h => h) (Or.inl ⟨by rfl, ?_⟩) (by assumption) ?_
  rotate_left
  · intro w' hSw; (try dsimp only at hSw); first | (go_simp; done) | (go_simp; with_reducible rfl)
  (try simp only [Act.put, List.setIfInBounds_toArray, List.set_cons_zero, List.set_cons_succ])
  refine wpAnyH_take (i := 43) (oi := { dst := some 93, op := Op.load 26 (Operand.tmp 3), type := 26, pos := "laws.go:472", after := #[{ on := 42, ground := Ground.guard }], guard := some (42, false) }) (v := ?_) rfl (by kernel_rfl) (by kernel_rfl) (by kernel_rfl) (fun _ _ _ h => h) (Or.inl ⟨by rfl, ?_⟩) (by assumption) ?_
  rotate_left
  · intro w' hSw; (try dsimp only at hSw); first | (go_simp; done) | (go_simp; with_reducible rfl)
  (try simp only [Act.put, List.setIfInBounds_toArray, List.set_cons_zero, List.set_cons_succ])
  refine wpAnyH_take (i := 45) (oi := { dst := some 95, op := Op.load 26 (Operand.tmp 3), type := 26, pos := "laws.go:472", after := #[{ on := 42, ground := Ground.guard }], guard := some (42, false) }) (v := ?_) rfl (by kernel_rfl) (by kernel_rfl) (by kernel_rfl) (fun _ _ _ h => h) (Or.inl ⟨by rfl, ?_⟩) (by assumption) ?_
  rotate_left
  · intro w' hSw; (try dsimp only at hSw); first | (go_simp; done) | (go_simp; with_reducible rfl)
  (try simp only [Act.put, List.setIfInBounds_toArray, List.set_cons_zero, List.set_cons_succ])
  refine wpAnyH_ready (rs := [44]) (by kernel_rfl) (by simp) ?_
  refine AllReadyH.cons (o := { dst := some 94, op := Op.call { callee := Callee.value (Operand.func 31), args := #[Operand.tmp 93], argTypes := #[26] }, type := 4, pos := "laws.go:472", after := #[{ on := 43, ground := Ground.data }, { on := 42, ground := Ground.chain }, { on := 42, ground := Ground.guard }], guard := some (42, false) }) rfl (fun K hK => ?_) AllReadyH.nil
  go_simp
  refine (implValidName _ mn _ Hd_n.out (by omega)).mono ?_
  rintro e wx ⟨rfl, hb⟩
  replace Cd_n := Lib.hid (Cd_n.out.on hb)
  replace Cd_y := Lib.hid (Cd_y.out.on hb)
  replace Cd_z := Lib.hid (Cd_z.out.on hb)
  replace Cd_a := Lib.hid (Cd_a.out.on hb)
  replace Cd_b := Lib.hid (Cd_b.out.on hb)
  replace Cd_p := Lib.hid (Cd_p.out.on hb)
  replace Hd_n := Lib.hid (Hd_n.out.on hb)
  replace Hd_y := Lib.hid (Hd_y.out.on hb)
  replace Hd_z := Lib.hid (Hd_z.out.on hb)
  replace Hd_a := Lib.hid (Hd_a.out.on hb)
  replace Hd_b := Lib.hid (Hd_b.out.on hb)
  replace Hd_p := Lib.hid (Hd_p.out.on hb)
  replace BB := Lib.hid (BB.out.trans (hb.mono BB.out.size)); clear hb
  (try go_wp2_with fail)
  clear hHeld
  refine hK.out _ _ ?_ (fun hHeld => ?_)
  · (try dsimp only); exact ⟨Cd_n.out.cell, Cd_y.out.cell, Cd_z.out.cell, Cd_a.out.cell, Cd_b.out.cell, Cd_p.out.cell⟩
  clear hK K
  (try simp only [Act.put, List.setIfInBounds_toArray, List.set_cons_zero, List.set_cons_succ])
  refine wpAnyH_ready (rs := [46]) (by kernel_rfl) (by simp) ?_
  refine AllReadyH.cons (o := { dst := some 96, op := Op.call { callee := Callee.value (Operand.func 32), args := #[Operand.tmp 95], argTypes := #[26] }, type := 4, pos := "laws.go:472", after := #[{ on := 45, ground := Ground.data }, { on := 44, ground := Ground.chain }, { on := 42, ground := Ground.guard }], guard := some (42, false) }) rfl (fun K hK => ?_) AllReadyH.nil
  go_simp
  refine (specValidName _ mn _ Hd_n.out (by omega)).mono ?_
  rintro e wx ⟨rfl, hb⟩
  replace Cd_n := Lib.hid (Cd_n.out.on hb)
  replace Cd_y := Lib.hid (Cd_y.out.on hb)
  replace Cd_z := Lib.hid (Cd_z.out.on hb)
  replace Cd_a := Lib.hid (Cd_a.out.on hb)
  replace Cd_b := Lib.hid (Cd_b.out.on hb)
  replace Cd_p := Lib.hid (Cd_p.out.on hb)
  replace Hd_n := Lib.hid (Hd_n.out.on hb)
  replace Hd_y := Lib.hid (Hd_y.out.on hb)
  replace Hd_z := Lib.hid (Hd_z.out.on hb)
  replace Hd_a := Lib.hid (Hd_a.out.on hb)
  replace Hd_b := Lib.hid (Hd_b.out.on hb)
  replace Hd_p := Lib.hid (Hd_p.out.on hb)
  replace BB := Lib.hid (BB.out.trans (hb.mono BB.out.size)); clear hb
  (try go_wp2_with fail)
  clear hHeld
  refine hK.out _ _ ?_ (fun hHeld => ?_)
  · (try dsimp only); exact ⟨Cd_n.out.cell, Cd_y.out.cell, Cd_z.out.cell, Cd_a.out.cell, Cd_b.out.cell, Cd_p.out.cell⟩
  clear hK K
  (try simp only [Act.put, List.setIfInBounds_toArray, List.set_cons_zero, List.set_cons_succ])
  refine wpAnyH_take (i := 47) (oi := { dst := some 97, op := Op.binOp BinOp.neq 4 (Operand.tmp 94) (Operand.tmp 96) 4, type := 4, pos := "laws.go:472", after := #[{ on := 44, ground := Ground.data }, { on := 46, ground := Ground.data }, { on := 42, ground := Ground.guard }], guard := some (42, false) }) (v := ?_) rfl (by kernel_rfl) (by kernel_rfl) (by kernel_rfl) (fun _ _ _ h => h) (Or.inl ⟨by rfl, ?_⟩) (by assumption) ?_
  rotate_left
  · intro w' hSw; (try dsimp only at hSw); first | (go_simp; done) | (go_simp; with_reducible rfl)
  (try simp only [Act.put, List.setIfInBounds_toArray, List.set_cons_zero, List.set_cons_succ])
  refine wpAnyH_take (i := 48) (oi := { dst := some 98, op := Op.pick (Operand.tmp 92) (Operand.const (Value.bool true)) (Operand.tmp 97), type := 4, pos := "laws.go:472", after := #[{ on := 42, ground := Ground.data }, { on := 47, ground := Ground.data }], guard := none }) (v := ?_) rfl (by kernel_rfl) (by kernel_rfl) (by kernel_rfl) (fun _ _ _ h => h) (Or.inl ⟨by rfl, ?_⟩) (by assumption) ?_
  rotate_left
  · intro w' hSw; (try dsimp only at hSw); first | (go_simp; done) | (go_simp; with_reducible rfl)
  (try simp only [Act.put, List.setIfInBounds_toArray, List.set_cons_zero, List.set_cons_succ])
  refine wpAnyH_take (i := 49) (oi := { dst := some 99, op := Op.move (Operand.tmp 98), type := 4, pos := "laws.go:472", after := #[{ on := 48, ground := Ground.data }, { on := 46, ground := Ground.chain }], guard := none }) (v := ?_) rfl (by kernel_rfl) (by kernel_rfl) (by kernel_rfl) (fun _ _ _ h => h) (Or.inl ⟨by rfl, ?_⟩) (by assumption) ?_
  rotate_left
  · intro w' hSw; (try dsimp only at hSw); first | (go_simp; done) | (go_simp; with_reducible rfl)
  (try simp only [Act.put, List.setIfInBounds_toArray, List.set_cons_zero, List.set_cons_succ])
  refine wpAnyH_take (i := 50) (oi := { dst := some 100, op := Op.load 26 (Operand.tmp 11), type := 26, pos := "laws.go:472", after := #[{ on := 49, ground := Ground.guard }], guard := some (49, false) }) (v := ?_) rfl (by kernel_rfl) (by kernel_rfl) (by kernel_rfl) (fun _ _ _ h => h) (Or.inl ⟨by rfl, ?_⟩) (by assumption) ?_
  rotate_left
  · intro w' hSw; (try dsimp only at hSw); first | (go_simp; done) | (go_simp; with_reducible rfl)
  (try simp only [Act.put, List.setIfInBounds_toArray, List.set_cons_zero, List.set_cons_succ])
  refine wpAnyH_take (i := 51) (oi := { dst := some 101, op := Op.load 26 (Operand.tmp 12), type := 26, pos := "laws.go:472", after := #[{ on := 49, ground := Ground.guard }], guard := some (49, false) }) (v := ?_) rfl (by kernel_rfl) (by kernel_rfl) (by kernel_rfl) (fun _ _ _ h => h) (Or.inl ⟨by rfl, ?_⟩) (by assumption) ?_
  rotate_left
  · intro w' hSw; (try dsimp only at hSw); first | (go_simp; done) | (go_simp; with_reducible rfl)
  (try simp only [Act.put, List.setIfInBounds_toArray, List.set_cons_zero, List.set_cons_succ])
  refine wpAnyH_take (i := 53) (oi := { dst := some 103, op := Op.load 26 (Operand.tmp 11), type := 26, pos := "laws.go:472", after := #[{ on := 49, ground := Ground.guard }], guard := some (49, false) }) (v := ?_) rfl (by kernel_rfl) (by kernel_rfl) (by kernel_rfl) (fun _ _ _ h => h) (Or.inl ⟨by rfl, ?_⟩) (by assumption) ?_
  rotate_left
  · intro w' hSw; (try dsimp only at hSw); first | (go_simp; done) | (go_simp; with_reducible rfl)
  (try simp only [Act.put, List.setIfInBounds_toArray, List.set_cons_zero, List.set_cons_succ])
  refine wpAnyH_take (i := 54) (oi := { dst := some 104, op := Op.load 26 (Operand.tmp 12), type := 26, pos := "laws.go:472", after := #[{ on := 49, ground := Ground.guard }], guard := some (49, false) }) (v := ?_) rfl (by kernel_rfl) (by kernel_rfl) (by kernel_rfl) (fun _ _ _ h => h) (Or.inl ⟨by rfl, ?_⟩) (by assumption) ?_
  rotate_left
  · intro w' hSw; (try dsimp only at hSw); first | (go_simp; done) | (go_simp; with_reducible rfl)
  (try simp only [Act.put, List.setIfInBounds_toArray, List.set_cons_zero, List.set_cons_succ])
  refine wpAnyH_ready (rs := [52]) (by kernel_rfl) (by simp) ?_
  refine AllReadyH.cons (o := { dst := some 102, op := Op.call { callee := Callee.value (Operand.func 33), args := #[Operand.tmp 100, Operand.tmp 101], argTypes := #[26, 26] }, type := 4, pos := "laws.go:472", after := #[{ on := 50, ground := Ground.data }, { on := 51, ground := Ground.data }, { on := 49, ground := Ground.chain }, { on := 49, ground := Ground.guard }], guard := some (49, false) }) rfl (fun K hK => ?_) AllReadyH.nil
  go_simp
  refine (implHasPrefix _ _ ma mb _ Hd_a.out Hd_b.out (by omega) (by omega)).mono ?_
  rintro e wx ⟨rfl, hb⟩
  replace Cd_n := Lib.hid (Cd_n.out.on hb)
  replace Cd_y := Lib.hid (Cd_y.out.on hb)
  replace Cd_z := Lib.hid (Cd_z.out.on hb)
  replace Cd_a := Lib.hid (Cd_a.out.on hb)
  replace Cd_b := Lib.hid (Cd_b.out.on hb)
  replace Cd_p := Lib.hid (Cd_p.out.on hb)
  replace Hd_n := Lib.hid (Hd_n.out.on hb)
  replace Hd_y := Lib.hid (Hd_y.out.on hb)
  replace Hd_z := Lib.hid (Hd_z.out.on hb)
  replace Hd_a := Lib.hid (Hd_a.out.on hb)
  replace Hd_b := Lib.hid (Hd_b.out.on hb)
  replace Hd_p := Lib.hid (Hd_p.out.on hb)
  replace BB := Lib.hid (BB.out.trans (hb.mono BB.out.size)); clear hb
  (try go_wp2_with fail)
  clear hHeld
  refine hK.out _ _ ?_ (fun hHeld => ?_)
  · (try dsimp only); exact ⟨Cd_n.out.cell, Cd_y.out.cell, Cd_z.out.cell, Cd_a.out.cell, Cd_b.out.cell, Cd_p.out.cell⟩
  clear hK K
  (try simp only [Act.put, List.setIfInBounds_toArray, List.set_cons_zero, List.set_cons_succ])
  refine wpAnyH_ready (rs := [55]) (by kernel_rfl) (by simp) ?_
  refine AllReadyH.cons (o := { dst := some 105, op := Op.call { callee := Callee.value (Operand.func 34), args := #[Operand.tmp 103, Operand.tmp 104], argTypes := #[26, 26] }, type := 4, pos := "laws.go:472", after := #[{ on := 53, ground := Ground.data }, { on := 54, ground := Ground.data }, { on := 52, ground := Ground.chain }, { on := 49, ground := Ground.guard }], guard := some (49, false) }) rfl (fun K hK => ?_) AllReadyH.nil
  go_simp
  refine (specHasPrefix _ _ ma mb _ Hd_a.out Hd_b.out (by omega) (by omega)).mono ?_
  rintro e wx ⟨rfl, hb⟩
  replace Cd_n := Lib.hid (Cd_n.out.on hb)
  replace Cd_y := Lib.hid (Cd_y.out.on hb)
  replace Cd_z := Lib.hid (Cd_z.out.on hb)
  replace Cd_a := Lib.hid (Cd_a.out.on hb)
  replace Cd_b := Lib.hid (Cd_b.out.on hb)
  replace Cd_p := Lib.hid (Cd_p.out.on hb)
  replace Hd_n := Lib.hid (Hd_n.out.on hb)
  replace Hd_y := Lib.hid (Hd_y.out.on hb)
  replace Hd_z := Lib.hid (Hd_z.out.on hb)
  replace Hd_a := Lib.hid (Hd_a.out.on hb)
  replace Hd_b := Lib.hid (Hd_b.out.on hb)
  replace Hd_p := Lib.hid (Hd_p.out.on hb)
  replace BB := Lib.hid (BB.out.trans (hb.mono BB.out.size)); clear hb
  (try go_wp2_with fail)
  clear hHeld
  refine hK.out _ _ ?_ (fun hHeld => ?_)
  · (try dsimp only); exact ⟨Cd_n.out.cell, Cd_y.out.cell, Cd_z.out.cell, Cd_a.out.cell, Cd_b.out.cell, Cd_p.out.cell⟩
  clear hK K
  (try simp only [Act.put, List.setIfInBounds_toArray, List.set_cons_zero, List.set_cons_succ])
  refine wpAnyH_take (i := 56) (oi := { dst := some 106, op := Op.binOp BinOp.neq 4 (Operand.tmp 102) (Operand.tmp 105) 4, type := 4, pos := "laws.go:472", after := #[{ on := 52, ground := Ground.data }, { on := 55, ground := Ground.data }, { on := 49, ground := Ground.guard }], guard := some (49, false) }) (v := ?_) rfl (by kernel_rfl) (by kernel_rfl) (by kernel_rfl) (fun _ _ _ h => h) (Or.inl ⟨by rfl, ?_⟩) (by assumption) ?_
  rotate_left
  · intro w' hSw; (try dsimp only at hSw); first | (go_simp; done) | (go_simp; with_reducible rfl)
  (try simp only [Act.put, List.setIfInBounds_toArray, List.set_cons_zero, List.set_cons_succ])
  refine wpAnyH_take (i := 57) (oi := { dst := some 107, op := Op.pick (Operand.tmp 99) (Operand.const (Value.bool true)) (Operand.tmp 106), type := 4, pos := "laws.go:472", after := #[{ on := 49, ground := Ground.data }, { on := 56, ground := Ground.data }], guard := none }) (v := ?_) rfl (by kernel_rfl) (by kernel_rfl) (by kernel_rfl) (fun _ _ _ h => h) (Or.inl ⟨by rfl, ?_⟩) (by assumption) ?_
  rotate_left
  · intro w' hSw; (try dsimp only at hSw); first | (go_simp; done) | (go_simp; with_reducible rfl)
  (try simp only [Act.put, List.setIfInBounds_toArray, List.set_cons_zero, List.set_cons_succ])
  refine wpAnyH_take (i := 58) (oi := { dst := some 108, op := Op.move (Operand.tmp 107), type := 4, pos := "laws.go:472", after := #[{ on := 57, ground := Ground.data }, { on := 55, ground := Ground.chain }], guard := none }) (v := ?_) rfl (by kernel_rfl) (by kernel_rfl) (by kernel_rfl) (fun _ _ _ h => h) (Or.inl ⟨by rfl, ?_⟩) (by assumption) ?_
  rotate_left
  · intro w' hSw; (try dsimp only at hSw); first | (go_simp; done) | (go_simp; with_reducible rfl)
  (try simp only [Act.put, List.setIfInBounds_toArray, List.set_cons_zero, List.set_cons_succ])
  refine wpAnyH_take (i := 59) (oi := { dst := some 109, op := Op.load 26 (Operand.tmp 11), type := 26, pos := "laws.go:472", after := #[{ on := 58, ground := Ground.guard }], guard := some (58, false) }) (v := ?_) rfl (by kernel_rfl) (by kernel_rfl) (by kernel_rfl) (fun _ _ _ h => h) (Or.inl ⟨by rfl, ?_⟩) (by assumption) ?_
  rotate_left
  · intro w' hSw; (try dsimp only at hSw); first | (go_simp; done) | (go_simp; with_reducible rfl)
  (try simp only [Act.put, List.setIfInBounds_toArray, List.set_cons_zero, List.set_cons_succ])
  refine wpAnyH_take (i := 60) (oi := { dst := some 110, op := Op.load 26 (Operand.tmp 12), type := 26, pos := "laws.go:472", after := #[{ on := 58, ground := Ground.guard }], guard := some (58, false) }) (v := ?_) rfl (by kernel_rfl) (by kernel_rfl) (by kernel_rfl) (fun _ _ _ h => h) (Or.inl ⟨by rfl, ?_⟩) (by assumption) ?_
  rotate_left
  · intro w' hSw; (try dsimp only at hSw); first | (go_simp; done) | (go_simp; with_reducible rfl)
  (try simp only [Act.put, List.setIfInBounds_toArray, List.set_cons_zero, List.set_cons_succ])
  refine wpAnyH_take (i := 62) (oi := { dst := some 112, op := Op.load 26 (Operand.tmp 11), type := 26, pos := "laws.go:472", after := #[{ on := 58, ground := Ground.guard }], guard := some (58, false) }) (v := ?_) rfl (by kernel_rfl) (by kernel_rfl) (by kernel_rfl) (fun _ _ _ h => h) (Or.inl ⟨by rfl, ?_⟩) (by assumption) ?_
  rotate_left
  · intro w' hSw; (try dsimp only at hSw); first | (go_simp; done) | (go_simp; with_reducible rfl)
  (try simp only [Act.put, List.setIfInBounds_toArray, List.set_cons_zero, List.set_cons_succ])
  refine wpAnyH_take (i := 63) (oi := { dst := some 113, op := Op.load 26 (Operand.tmp 12), type := 26, pos := "laws.go:472", after := #[{ on := 58, ground := Ground.guard }], guard := some (58, false) }) (v := ?_) rfl (by kernel_rfl) (by kernel_rfl) (by kernel_rfl) (fun _ _ _ h => h) (Or.inl ⟨by rfl, ?_⟩) (by assumption) ?_
  rotate_left
  · intro w' hSw; (try dsimp only at hSw); first | (go_simp; done) | (go_simp; with_reducible rfl)
  (try simp only [Act.put, List.setIfInBounds_toArray, List.set_cons_zero, List.set_cons_succ])
  refine wpAnyH_ready (rs := [61]) (by kernel_rfl) (by simp) ?_
  refine AllReadyH.cons (o := { dst := some 111, op := Op.call { callee := Callee.value (Operand.func 35), args := #[Operand.tmp 109, Operand.tmp 110], argTypes := #[26, 26] }, type := 4, pos := "laws.go:472", after := #[{ on := 59, ground := Ground.data }, { on := 60, ground := Ground.data }, { on := 58, ground := Ground.chain }, { on := 58, ground := Ground.guard }], guard := some (58, false) }) rfl (fun K hK => ?_) AllReadyH.nil
  go_simp
  refine (implEqualNames _ _ ma mb _ Hd_a.out Hd_b.out (by omega) (by omega)).mono ?_
  rintro e wx ⟨rfl, hb⟩
  replace Cd_n := Lib.hid (Cd_n.out.on hb)
  replace Cd_y := Lib.hid (Cd_y.out.on hb)
  replace Cd_z := Lib.hid (Cd_z.out.on hb)
  replace Cd_a := Lib.hid (Cd_a.out.on hb)
  replace Cd_b := Lib.hid (Cd_b.out.on hb)
  replace Cd_p := Lib.hid (Cd_p.out.on hb)
  replace Hd_n := Lib.hid (Hd_n.out.on hb)
  replace Hd_y := Lib.hid (Hd_y.out.on hb)
  replace Hd_z := Lib.hid (Hd_z.out.on hb)
  replace Hd_a := Lib.hid (Hd_a.out.on hb)
  replace Hd_b := Lib.hid (Hd_b.out.on hb)
  replace Hd_p := Lib.hid (Hd_p.out.on hb)
  replace BB := Lib.hid (BB.out.trans (hb.mono BB.out.size)); clear hb
  (try go_wp2_with fail)
  clear hHeld
  refine hK.out _ _ ?_ (fun hHeld => ?_)
  · (try dsimp only); exact ⟨Cd_n.out.cell, Cd_y.out.cell, Cd_z.out.cell, Cd_a.out.cell, Cd_b.out.cell, Cd_p.out.cell⟩
  clear hK K
  (try simp only [Act.put, List.setIfInBounds_toArray, List.set_cons_zero, List.set_cons_succ])
  refine wpAnyH_ready (rs := [64]) (by kernel_rfl) (by simp) ?_
  refine AllReadyH.cons (o := { dst := some 114, op := Op.call { callee := Callee.value (Operand.func 24), args := #[Operand.tmp 112, Operand.tmp 113], argTypes := #[26, 26] }, type := 4, pos := "laws.go:472", after := #[{ on := 62, ground := Ground.data }, { on := 63, ground := Ground.data }, { on := 61, ground := Ground.chain }, { on := 58, ground := Ground.guard }], guard := some (58, false) }) rfl (fun K hK => ?_) AllReadyH.nil
  go_simp
  refine (sameName _ _ ma mb _ Hd_a.out Hd_b.out (by omega) (by omega)).mono ?_
  rintro e wx ⟨rfl, hb⟩
  replace Cd_n := Lib.hid (Cd_n.out.on hb)
  replace Cd_y := Lib.hid (Cd_y.out.on hb)
  replace Cd_z := Lib.hid (Cd_z.out.on hb)
  replace Cd_a := Lib.hid (Cd_a.out.on hb)
  replace Cd_b := Lib.hid (Cd_b.out.on hb)
  replace Cd_p := Lib.hid (Cd_p.out.on hb)
  replace Hd_n := Lib.hid (Hd_n.out.on hb)
  replace Hd_y := Lib.hid (Hd_y.out.on hb)
  replace Hd_z := Lib.hid (Hd_z.out.on hb)
  replace Hd_a := Lib.hid (Hd_a.out.on hb)
  replace Hd_b := Lib.hid (Hd_b.out.on hb)
  replace Hd_p := Lib.hid (Hd_p.out.on hb)
  replace BB := Lib.hid (BB.out.trans (hb.mono BB.out.size)); clear hb
  (try go_wp2_with fail)
  clear hHeld
  refine hK.out _ _ ?_ (fun hHeld => ?_)
  · (try dsimp only); exact ⟨Cd_n.out.cell, Cd_y.out.cell, Cd_z.out.cell, Cd_a.out.cell, Cd_b.out.cell, Cd_p.out.cell⟩
  clear hK K
  (try simp only [Act.put, List.setIfInBounds_toArray, List.set_cons_zero, List.set_cons_succ])
  refine wpAnyH_take (i := 65) (oi := { dst := some 115, op := Op.binOp BinOp.neq 4 (Operand.tmp 111) (Operand.tmp 114) 4, type := 4, pos := "laws.go:472", after := #[{ on := 61, ground := Ground.data }, { on := 64, ground := Ground.data }, { on := 58, ground := Ground.guard }], guard := some (58, false) }) (v := ?_) rfl (by kernel_rfl) (by kernel_rfl) (by kernel_rfl) (fun _ _ _ h => h) (Or.inl ⟨by rfl, ?_⟩) (by assumption) ?_
  rotate_left
  · intro w' hSw; (try dsimp only at hSw); first | (go_simp; done) | (go_simp; with_reducible rfl)
  (try simp only [Act.put, List.setIfInBounds_toArray, List.set_cons_zero, List.set_cons_succ])
  refine wpAnyH_take (i := 66) (oi := { dst := some 116, op := Op.pick (Operand.tmp 108) (Operand.const (Value.bool true)) (Operand.tmp 115), type := 4, pos := "laws.go:472", after := #[{ on := 58, ground := Ground.data }, { on := 65, ground := Ground.data }], guard := none }) (v := ?_) rfl (by kernel_rfl) (by kernel_rfl) (by kernel_rfl) (fun _ _ _ h => h) (Or.inl ⟨by rfl, ?_⟩) (by assumption) ?_
  rotate_left
  · intro w' hSw; (try dsimp only at hSw); first | (go_simp; done) | (go_simp; with_reducible rfl)
  (try simp only [Act.put, List.setIfInBounds_toArray, List.set_cons_zero, List.set_cons_succ])
  refine wpAnyH_done (by kernel_rfl) ?_ _
  exact NoPanic.normal (HQ.out _ _ _ _ _ _ _ _ _ _ _ _ _ _ _ _ _ _ _ _ _ _ _ _ _ _ _ _ _ _ _ _ _ _ _ _ _ _ _ _ _ _ _ _ _ _ _ _ _ _ _ _ _ _ _ _ _ _ _ _ _ _ _ _ _ _ _ BB.out)

end Go.Proofs.Ytnhfdgjbbjogmaa.Row
