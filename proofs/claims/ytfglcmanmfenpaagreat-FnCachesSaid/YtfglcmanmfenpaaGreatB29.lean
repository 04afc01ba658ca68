/- Contracts and mathematics, joined: RegC11. No conditions but those that each states. -/
import Derived.WalkKit
import Derived.Deep.RegionHeld3
import Derived.Test.YtfglcmanmfenpaaGreatB28
/- The great region of FnCaches: whatever order is drawn, its last value is false. No conditions. -/
namespace Go.Proofs.YtfglcmanmfenpaaGreat.Row
open Go.ChangeShapes Go.WideShapes Go.ChangeAt Go.RowKit Go.Instr
set_option linter.unusedVariables false
set_option maxRecDepth 100000
set_option maxRecDepth 100000 in
set_option maxHeartbeats 4000000 in
theorem regC11 {Q : Exit → Act → World → Prop} {v0 v1 v2 v19 v20 v21 v22 v23 v24 v25 v26 v27 v28 v29 v30 v31 v32 v33 v34 v35 v36 v37 v38 v39 v40 v41 v42 v43 v44 v45 v46 v47 v48 v49 v50 v51 v52 v53 v54 v55 v56 v57 v58 v59 v60 v61 v62 v63 v64 v65 v66 v67 v68 v69 v70 v71 v72 v73 v74 v75 v76 v77 v78 v79 v80 v81 v82 v83 v84 v85 v86 v87 v88 v89 v90 v91 v92 v93 v94 v95 v96 v97 v98 v99 v100 v101 v102 v103 v104 v105 v106 v107 v108 v109 v110 v111 v112 v113 v114 v115 v116 v117 v118 v119 v120 v121 v122 v123 v124 v125 v126 v127 v128 v129 v130 v131 v132 v133 v134 v135 v136 v137 v138 v139 v140 v141 v142 v143 v144 v145 v146 v147 v148 v149 v150 v151 v152 v153 v154 v155 v156 v157 v158 v159 v160 v161 v162 v163 v164 v165 v166 v167 v168 v169 v170 v171 v172 v173 v174 v175 v176 v177 v178 v179 v180 v181 v182 v183 v184 v185 v186 v187 v188 v189 v190 v191 v192 : Value} {w : World} {bc bx bd bk bn by_ bz bs ba bb : Nat} {ok q1 q2 : Bool} {now t wh e : Int} {xc xd xk xs xa xb xt xv : Cnt} {xx xy : Dzt} {xn : List ByteArray} {x_c : Option Addr} {n_c c_c : Nat} {x_xa : Option Addr} {n_xa c_xa : Nat} {x_xb : Option Addr} {n_xb c_xb : Nat} {x_xc : Option Addr} {n_xc c_xc : Nat} {x_d : Option Addr} {n_d c_d : Nat} {x_k : Option Addr} {n_k c_k : Nat} {x_n : Option Addr} {n_n c_n : Nat} {x_ya : Option Addr} {n_ya c_ya : Nat} {x_yb : Option Addr} {n_yb c_yb : Nat} {x_yc : Option Addr} {n_yc c_yc : Nat} {x_za : Option Addr} {n_za c_za : Nat} {x_zb : Option Addr} {n_zb c_zb : Nat} {x_zc : Option Addr} {n_zc c_zc : Nat} {x_s : Option Addr} {n_s c_s : Nat} {x_a : Option Addr} {n_a c_a : Nat} {x_b : Option Addr} {n_b c_b : Nat} (H_c : Hid (kCn.At w (.agg #[.int .i64 xc.1, .slice x_c n_c c_c]) xc)) (H_x : Hid (kDz.At w (.agg #[.slice x_xa n_xa c_xa, .slice x_xb n_xb c_xb, .slice x_xc n_xc c_xc, .int .i64 xx.2.2.2.1, .int .i64 xx.2.2.2.2]) xx)) (H_d : Hid (kCn.At w (.agg #[.int .i64 xd.1, .slice x_d n_d c_d]) xd)) (H_k : Hid (kCn.At w (.agg #[.int .i64 xk.1, .slice x_k n_k c_k]) xk)) (H_n : Hid (kN.At w (.agg #[.slice x_n n_n c_n]) xn)) (H_y : Hid (kDz.At w (.agg #[.slice x_ya n_ya c_ya, .slice x_yb n_yb c_yb, .slice x_yc n_yc c_yc, .int .i64 xy.2.2.2.1, .int .i64 xy.2.2.2.2]) xy)) (H_z : Hid (kDz.At w (.agg #[.slice x_za n_za c_za, .slice x_zb n_zb c_zb, .slice x_zc n_zc c_zc, .int .i64 xy.2.2.2.1, .int .i64 xy.2.2.2.2]) xy)) (H_s : Hid (kCn.At w (.agg #[.int .i64 xs.1, .slice x_s n_s c_s]) xs)) (H_a : Hid (kCn.At w (.agg #[.int .i64 xa.1, .slice x_a n_a c_a]) xa)) (H_b : Hid (kCn.At w (.agg #[.int .i64 xb.1, .slice x_b n_b c_b]) xb)) (HCD : Hid (cacheC xc xx now = xd)) (HTO : Hid (touchC xk xn t = xt)) (HEV : Hid (evictC xs wh = xv)) (HEQ : Hid (eqC xa xb = q1)) (HVC : Hid (validC xc = q2)) (s_c : Hid (smC 95 xc)) (s_d : Hid (smC 95 xd)) (s_k : Hid (smC 95 xk)) (s_t : Hid (smC 95 xt)) (s_s : Hid (smC 95 xs)) (s_v : Hid (smC 95 xv)) (s_a : Hid (smC 95 xa)) (s_b : Hid (smC 95 xb)) (s_e : Hid (smC 95 (newC e))) (HIY : Hid (inDz xy)) (HBX : Hid (wtDz xx ≤ 4000)) (HBY : Hid (wtDz xy ≤ 4000)) (HBN : Hid (bulk xn ≤ 4000)) (K0_c : Hid (w.cell? ⟨bc, 0, none⟩ = some (.int .i64 xc.1))) (K1_c : Hid (w.cell? ⟨bc, 1, none⟩ = some (.slice x_c n_c c_c))) (K0_x : Hid (w.cell? ⟨bx, 0, none⟩ = some (.slice x_xa n_xa c_xa))) (K1_x : Hid (w.cell? ⟨bx, 1, none⟩ = some (.slice x_xb n_xb c_xb))) (K2_x : Hid (w.cell? ⟨bx, 2, none⟩ = some (.slice x_xc n_xc c_xc))) (K3_x : Hid (w.cell? ⟨bx, 3, none⟩ = some (.int .i64 xx.2.2.2.1))) (K4_x : Hid (w.cell? ⟨bx, 4, none⟩ = some (.int .i64 xx.2.2.2.2))) (K0_d : Hid (w.cell? ⟨bd, 0, none⟩ = some (.int .i64 xd.1))) (K1_d : Hid (w.cell? ⟨bd, 1, none⟩ = some (.slice x_d n_d c_d))) (K0_k : Hid (w.cell? ⟨bk, 0, none⟩ = some (.int .i64 xk.1))) (K1_k : Hid (w.cell? ⟨bk, 1, none⟩ = some (.slice x_k n_k c_k))) (K0_n : Hid (w.cell? ⟨bn, 0, none⟩ = some (.slice x_n n_n c_n))) (K0_y : Hid (w.cell? ⟨by_, 0, none⟩ = some (.slice x_ya n_ya c_ya))) (K1_y : Hid (w.cell? ⟨by_, 1, none⟩ = some (.slice x_yb n_yb c_yb))) (K2_y : Hid (w.cell? ⟨by_, 2, none⟩ = some (.slice x_yc n_yc c_yc))) (K3_y : Hid (w.cell? ⟨by_, 3, none⟩ = some (.int .i64 xy.2.2.2.1))) (K4_y : Hid (w.cell? ⟨by_, 4, none⟩ = some (.int .i64 xy.2.2.2.2))) (K0_z : Hid (w.cell? ⟨bz, 0, none⟩ = some (.slice x_za n_za c_za))) (K1_z : Hid (w.cell? ⟨bz, 1, none⟩ = some (.slice x_zb n_zb c_zb))) (K2_z : Hid (w.cell? ⟨bz, 2, none⟩ = some (.slice x_zc n_zc c_zc))) (K3_z : Hid (w.cell? ⟨bz, 3, none⟩ = some (.int .i64 xy.2.2.2.1))) (K4_z : Hid (w.cell? ⟨bz, 4, none⟩ = some (.int .i64 xy.2.2.2.2))) (K0_s : Hid (w.cell? ⟨bs, 0, none⟩ = some (.int .i64 xs.1))) (K1_s : Hid (w.cell? ⟨bs, 1, none⟩ = some (.slice x_s n_s c_s))) (K0_a : Hid (w.cell? ⟨ba, 0, none⟩ = some (.int .i64 xa.1))) (K1_a : Hid (w.cell? ⟨ba, 1, none⟩ = some (.slice x_a n_a c_a))) (K0_b : Hid (w.cell? ⟨bb, 0, none⟩ = some (.int .i64 xb.1))) (K1_b : Hid (w.cell? ⟨bb, 1, none⟩ = some (.slice x_b n_b c_b)))
  (hQ : ∀ (u65 u66 u67 u68 u69 u70 u71 u72 u73 u74 u75 u76 u77 u78 u79 u80 u81 u82 u83 u84 u85 u86 u87 u88 u89 u90 u91 u92 u93 u94 u95 u96 u97 u98 u99 u100 u101 u102 u103 u104 u105 u106 u107 u108 u109 u110 u111 u112 u113 u114 u115 u116 u117 u118 u119 u120 u121 u122 u123 u124 u125 u126 u127 u128 u129 u130 u131 u132 u133 u134 u135 : Value)  (wx : World), Below w.heap.size w wx → Q .normal ⟨#[v0, v1, v2, .pointer (some ⟨bc, 0, none⟩), .pointer (some ⟨bx, 0, none⟩), .int .i64 now, .pointer (some ⟨bd, 0, none⟩), .pointer (some ⟨bk, 0, none⟩), .pointer (some ⟨bn, 0, none⟩), .int .i64 t, .pointer (some ⟨by_, 0, none⟩), .bool ok, .pointer (some ⟨bz, 0, none⟩), .bool ok, .pointer (some ⟨bs, 0, none⟩), .int .i64 wh, .pointer (some ⟨ba, 0, none⟩), .pointer (some ⟨bb, 0, none⟩), .int .i64 e, v19, v20, v21, v22, v23, v24, v25, v26, v27, v28, v29, v30, v31, v32, v33, v34, v35, v36, v37, v38, v39, v40, v41, v42, v43, v44, v45, v46, v47, v48, v49, v50, v51, v52, v53, v54, v55, v56, v57, v58, v59, v60, v61, v62, v63, v64, u65, u66, u67, u68, u69, u70, u71, u72, u73, u74, u75, u76, u77, u78, u79, u80, u81, u82, u83, u84, u85, u86, u87, u88, u89, u90, u91, u92, u93, u94, u95, u96, u97, u98, u99, u100, u101, u102, u103, u104, u105, u106, u107, u108, u109, u110, u111, u112, u113, u114, u115, u116, u117, u118, u119, u120, u121, u122, u123, u124, u125, u126, u127, u128, u129, u130, u131, u132, u133, u134, u135, .bool false, v137, v138, v139, v140, v141, v142, v143, v144, v145, v146, v147, v148, v149, v150, v151, v152, v153, v154, v155, v156, v157, v158, v159, v160, v161, v162, v163, v164, v165, v166, v167, v168, v169, v170, v171, v172, v173, v174, v175, v176, v177, v178, v179, v180, v181, v182, v183, v184, v185, v186, v187, v188, v189, v190, v191, v192], []⟩ wx) :
  (Code.region 11 #[⟨some 65, .load 26 (.tmp 6), 26, "laws.go:740", #[], none⟩,
   ⟨some 66, .load 26 (.tmp 3), 26, "laws.go:740", #[], none⟩,
   ⟨some 67, .load 31 (.tmp 4), 31, "laws.go:740", #[], none⟩,
   ⟨some 68, .move (.tmp 5), 3, "laws.go:740", #[], none⟩,
   ⟨some 69, .call ⟨.value (.func 14), #[.tmp 66, .tmp 67, .tmp 68], #[26, 31, 3]⟩, 26, "laws.go:740", #[⟨1, .data⟩, ⟨2, .data⟩, ⟨3, .data⟩], none⟩,
   ⟨some 70, .call ⟨.value (.func 13), #[.tmp 65, .tmp 69], #[26, 26]⟩, 4, "laws.go:740", #[⟨0, .data⟩, ⟨4, .data⟩, ⟨4, .chain⟩], none⟩,
   ⟨some 71, .unOp UnOp.not 4 (.tmp 70), 4, "laws.go:740", #[⟨5, .data⟩], none⟩,
   ⟨some 72, .move (.tmp 71), 4, "laws.go:740", #[⟨6, .data⟩, ⟨5, .chain⟩], none⟩,
   ⟨some 73, .load 31 (.tmp 10), 31, "laws.go:740", #[⟨7, .guard⟩], some (7, false)⟩,
   ⟨some 74, .load 31 (.tmp 12), 31, "laws.go:740", #[⟨7, .guard⟩], some (7, false)⟩,
   ⟨some 75, .call ⟨.value (.func 15), #[.tmp 73, .tmp 74], #[31, 31]⟩, 4, "laws.go:740", #[⟨8, .data⟩, ⟨9, .data⟩, ⟨7, .chain⟩, ⟨7, .guard⟩], some (7, false)⟩,
   ⟨some 76, .unOp UnOp.not 4 (.tmp 75), 4, "laws.go:740", #[⟨10, .data⟩, ⟨7, .guard⟩], some (7, false)⟩,
   ⟨some 77, .pick (.tmp 72) (.const (Value.bool true)) (.tmp 76), 4, "laws.go:740", #[⟨7, .data⟩, ⟨11, .data⟩], none⟩,
   ⟨some 78, .move (.tmp 77), 4, "laws.go:740", #[⟨12, .data⟩, ⟨10, .chain⟩], none⟩,
   ⟨some 79, .move (.tmp 11), 4, "laws.go:740", #[⟨13, .guard⟩], some (13, false)⟩,
   ⟨some 80, .move (.tmp 13), 4, "laws.go:740", #[⟨13, .guard⟩], some (13, false)⟩,
   ⟨some 81, .binOp BinOp.neq 4 (.tmp 79) (.tmp 80) 4, 4, "laws.go:740", #[⟨14, .data⟩, ⟨15, .data⟩, ⟨13, .guard⟩], some (13, false)⟩,
   ⟨some 82, .pick (.tmp 78) (.const (Value.bool true)) (.tmp 81), 4, "laws.go:740", #[⟨13, .data⟩, ⟨16, .data⟩], none⟩,
   ⟨some 83, .move (.tmp 82), 4, "laws.go:740", #[⟨17, .data⟩, ⟨13, .chain⟩], none⟩,
   ⟨some 84, .load 26 (.tmp 7), 26, "laws.go:740", #[⟨18, .guard⟩], some (18, false)⟩,
   ⟨some 85, .load 29 (.tmp 8), 29, "laws.go:740", #[⟨18, .guard⟩], some (18, false)⟩,
   ⟨some 86, .move (.tmp 9), 3, "laws.go:740", #[⟨18, .guard⟩], some (18, false)⟩,
   ⟨some 87, .call ⟨.value (.func 16), #[.tmp 84, .tmp 85, .tmp 86], #[26, 29, 3]⟩, 26, "laws.go:740", #[⟨19, .data⟩, ⟨20, .data⟩, ⟨21, .data⟩, ⟨18, .chain⟩, ⟨18, .guard⟩], some (18, false)⟩,
   ⟨some 88, .load 26 (.tmp 7), 26, "laws.go:740", #[⟨18, .guard⟩], some (18, false)⟩,
   ⟨some 89, .load 29 (.tmp 8), 29, "laws.go:740", #[⟨18, .guard⟩], some (18, false)⟩,
   ⟨some 90, .move (.tmp 9), 3, "laws.go:740", #[⟨18, .guard⟩], some (18, false)⟩,
   ⟨some 91, .call ⟨.value (.func 17), #[.tmp 88, .tmp 89, .tmp 90], #[26, 29, 3]⟩, 26, "laws.go:740", #[⟨23, .data⟩, ⟨24, .data⟩, ⟨25, .data⟩, ⟨22, .chain⟩, ⟨18, .guard⟩], some (18, false)⟩,
   ⟨some 92, .call ⟨.value (.func 13), #[.tmp 87, .tmp 91], #[26, 26]⟩, 4, "laws.go:740", #[⟨22, .data⟩, ⟨26, .data⟩, ⟨26, .chain⟩, ⟨18, .guard⟩], some (18, false)⟩,
   ⟨some 93, .unOp UnOp.not 4 (.tmp 92), 4, "laws.go:740", #[⟨27, .data⟩, ⟨18, .guard⟩], some (18, false)⟩,
   ⟨some 94, .pick (.tmp 83) (.const (Value.bool true)) (.tmp 93), 4, "laws.go:740", #[⟨18, .data⟩, ⟨28, .data⟩], none⟩,
   ⟨some 95, .move (.tmp 94), 4, "laws.go:740", #[⟨29, .data⟩, ⟨27, .chain⟩], none⟩,
   ⟨some 96, .load 26 (.tmp 14), 26, "laws.go:740", #[⟨30, .guard⟩], some (30, false)⟩,
   ⟨some 97, .move (.tmp 15), 3, "laws.go:740", #[⟨30, .guard⟩], some (30, false)⟩,
   ⟨some 98, .call ⟨.value (.func 18), #[.tmp 96, .tmp 97], #[26, 3]⟩, 26, "laws.go:740", #[⟨31, .data⟩, ⟨32, .data⟩, ⟨30, .chain⟩, ⟨30, .guard⟩], some (30, false)⟩,
   ⟨some 99, .load 26 (.tmp 14), 26, "laws.go:740", #[⟨30, .guard⟩], some (30, false)⟩,
   ⟨some 100, .move (.tmp 15), 3, "laws.go:740", #[⟨30, .guard⟩], some (30, false)⟩,
   ⟨some 101, .call ⟨.value (.func 19), #[.tmp 99, .tmp 100], #[26, 3]⟩, 26, "laws.go:740", #[⟨34, .data⟩, ⟨35, .data⟩, ⟨33, .chain⟩, ⟨30, .guard⟩], some (30, false)⟩,
   ⟨some 102, .call ⟨.value (.func 13), #[.tmp 98, .tmp 101], #[26, 26]⟩, 4, "laws.go:740", #[⟨33, .data⟩, ⟨36, .data⟩, ⟨36, .chain⟩, ⟨30, .guard⟩], some (30, false)⟩,
   ⟨some 103, .unOp UnOp.not 4 (.tmp 102), 4, "laws.go:740", #[⟨37, .data⟩, ⟨30, .guard⟩], some (30, false)⟩,
   ⟨some 104, .pick (.tmp 95) (.const (Value.bool true)) (.tmp 103), 4, "laws.go:740", #[⟨30, .data⟩, ⟨38, .data⟩], none⟩,
   ⟨some 105, .move (.tmp 104), 4, "laws.go:740", #[⟨39, .data⟩, ⟨37, .chain⟩], none⟩,
   ⟨some 106, .load 26 (.tmp 16), 26, "laws.go:740", #[⟨40, .guard⟩], some (40, false)⟩,
   ⟨some 107, .load 26 (.tmp 17), 26, "laws.go:740", #[⟨40, .guard⟩], some (40, false)⟩,
   ⟨some 108, .call ⟨.value (.func 20), #[.tmp 106, .tmp 107], #[26, 26]⟩, 4, "laws.go:740", #[⟨41, .data⟩, ⟨42, .data⟩, ⟨40, .chain⟩, ⟨40, .guard⟩], some (40, false)⟩,
   ⟨some 109, .load 26 (.tmp 16), 26, "laws.go:740", #[⟨40, .guard⟩], some (40, false)⟩,
   ⟨some 110, .load 26 (.tmp 17), 26, "laws.go:740", #[⟨40, .guard⟩], some (40, false)⟩,
   ⟨some 111, .call ⟨.value (.func 13), #[.tmp 109, .tmp 110], #[26, 26]⟩, 4, "laws.go:740", #[⟨44, .data⟩, ⟨45, .data⟩, ⟨43, .chain⟩, ⟨40, .guard⟩], some (40, false)⟩,
   ⟨some 112, .binOp BinOp.neq 4 (.tmp 108) (.tmp 111) 4, 4, "laws.go:740", #[⟨43, .data⟩, ⟨46, .data⟩, ⟨40, .guard⟩], some (40, false)⟩,
   ⟨some 113, .pick (.tmp 105) (.const (Value.bool true)) (.tmp 112), 4, "laws.go:740", #[⟨40, .data⟩, ⟨47, .data⟩], none⟩,
   ⟨some 114, .move (.tmp 113), 4, "laws.go:740", #[⟨48, .data⟩, ⟨46, .chain⟩], none⟩,
   ⟨some 115, .move (.tmp 18), 3, "laws.go:740", #[⟨49, .guard⟩], some (49, false)⟩,
   ⟨some 116, .call ⟨.value (.func 21), #[.tmp 115], #[3]⟩, 26, "laws.go:740", #[⟨50, .data⟩, ⟨49, .chain⟩, ⟨49, .guard⟩], some (49, false)⟩,
   ⟨some 117, .move (.tmp 18), 3, "laws.go:740", #[⟨49, .guard⟩], some (49, false)⟩,
   ⟨some 118, .call ⟨.value (.func 22), #[.tmp 117], #[3]⟩, 26, "laws.go:740", #[⟨52, .data⟩, ⟨51, .chain⟩, ⟨49, .guard⟩], some (49, false)⟩,
   ⟨some 119, .call ⟨.value (.func 13), #[.tmp 116, .tmp 118], #[26, 26]⟩, 4, "laws.go:740", #[⟨51, .data⟩, ⟨53, .data⟩, ⟨53, .chain⟩, ⟨49, .guard⟩], some (49, false)⟩,
   ⟨some 120, .unOp UnOp.not 4 (.tmp 119), 4, "laws.go:740", #[⟨54, .data⟩, ⟨49, .guard⟩], some (49, false)⟩,
   ⟨some 121, .pick (.tmp 114) (.const (Value.bool true)) (.tmp 120), 4, "laws.go:740", #[⟨49, .data⟩, ⟨55, .data⟩], none⟩,
   ⟨some 122, .move (.tmp 121), 4, "laws.go:740", #[⟨56, .data⟩, ⟨54, .chain⟩], none⟩,
   ⟨some 123, .load 26 (.tmp 3), 26, "laws.go:740", #[⟨57, .guard⟩], some (57, false)⟩,
   ⟨some 124, .call ⟨.value (.func 24), #[.tmp 123], #[26]⟩, 50, "laws.go:740", #[⟨58, .data⟩, ⟨57, .chain⟩, ⟨57, .guard⟩], some (57, false)⟩,
   ⟨some 125, .load 26 (.tmp 3), 26, "laws.go:740", #[⟨57, .guard⟩], some (57, false)⟩,
   ⟨some 126, .call ⟨.value (.func 25), #[.tmp 125], #[26]⟩, 50, "laws.go:740", #[⟨60, .data⟩, ⟨59, .chain⟩, ⟨57, .guard⟩], some (57, false)⟩,
   ⟨some 127, .call ⟨.value (.func 23), #[.tmp 124, .tmp 126], #[50, 50]⟩, 4, "laws.go:740", #[⟨59, .data⟩, ⟨61, .data⟩, ⟨61, .chain⟩, ⟨57, .guard⟩], some (57, false)⟩,
   ⟨some 128, .unOp UnOp.not 4 (.tmp 127), 4, "laws.go:740", #[⟨62, .data⟩, ⟨57, .guard⟩], some (57, false)⟩,
   ⟨some 129, .pick (.tmp 122) (.const (Value.bool true)) (.tmp 128), 4, "laws.go:740", #[⟨57, .data⟩, ⟨63, .data⟩], none⟩,
   ⟨some 130, .move (.tmp 129), 4, "laws.go:740", #[⟨64, .data⟩, ⟨62, .chain⟩], none⟩,
   ⟨some 131, .load 26 (.tmp 3), 26, "laws.go:740", #[⟨65, .guard⟩], some (65, false)⟩,
   ⟨some 132, .call ⟨.value (.func 26), #[.tmp 131], #[26]⟩, 4, "laws.go:740", #[⟨66, .data⟩, ⟨65, .chain⟩, ⟨65, .guard⟩], some (65, false)⟩,
   ⟨some 133, .load 26 (.tmp 3), 26, "laws.go:740", #[⟨65, .guard⟩], some (65, false)⟩,
   ⟨some 134, .call ⟨.value (.func 27), #[.tmp 133], #[26]⟩, 4, "laws.go:740", #[⟨68, .data⟩, ⟨67, .chain⟩, ⟨65, .guard⟩], some (65, false)⟩,
   ⟨some 135, .binOp BinOp.neq 4 (.tmp 132) (.tmp 134) 4, 4, "laws.go:740", #[⟨67, .data⟩, ⟨69, .data⟩, ⟨65, .guard⟩], some (65, false)⟩,
   ⟨some 136, .pick (.tmp 130) (.const (Value.bool true)) (.tmp 135), 4, "laws.go:740", #[⟨65, .data⟩, ⟨70, .data⟩], none⟩] true).wp Tryz.prog Q ⟨#[v0, v1, v2, .pointer (some ⟨bc, 0, none⟩), .pointer (some ⟨bx, 0, none⟩), .int .i64 now, .pointer (some ⟨bd, 0, none⟩), .pointer (some ⟨bk, 0, none⟩), .pointer (some ⟨bn, 0, none⟩), .int .i64 t, .pointer (some ⟨by_, 0, none⟩), .bool ok, .pointer (some ⟨bz, 0, none⟩), .bool ok, .pointer (some ⟨bs, 0, none⟩), .int .i64 wh, .pointer (some ⟨ba, 0, none⟩), .pointer (some ⟨bb, 0, none⟩), .int .i64 e, v19, v20, v21, v22, v23, v24, v25, v26, v27, v28, v29, v30, v31, v32, v33, v34, v35, v36, v37, v38, v39, v40, v41, v42, v43, v44, v45, v46, v47, v48, v49, v50, v51, v52, v53, v54, v55, v56, v57, v58, v59, v60, v61, v62, v63, v64, v65, v66, v67, v68, v69, v70, v71, v72, v73, v74, v75, v76, v77, v78, v79, v80, v81, v82, v83, v84, v85, v86, v87, v88, v89, v90, v91, v92, v93, v94, v95, v96, v97, v98, v99, v100, v101, v102, v103, v104, v105, v106, v107, v108, v109, v110, v111, v112, v113, v114, v115, v116, v117, v118, v119, v120, v121, v122, v123, v124, v125, v126, v127, v128, v129, v130, v131, v132, v133, v134, v135, v136, v137, v138, v139, v140, v141, v142, v143, v144, v145, v146, v147, v148, v149, v150, v151, v152, v153, v154, v155, v156, v157, v158, v159, v160, v161, v162, v163, v164, v165, v166, v167, v168, v169, v170, v171, v172, v173, v174, v175, v176, v177, v178, v179, v180, v181, v182, v183, v184, v185, v186, v187, v188, v189, v190, v191, v192], []⟩ w := by
 have HQ := Lib.hid hQ; clear hQ
 have hdr : Below w.heap.size w w.drew := (Below.refl _ _).drew
 have BB := Lib.hid hdr
 refine wp_region_noPanic ?_
 refine wp_region_held_drew (S := (fun w' => w'.cell? ⟨bc, 0, none⟩ = some (.int .i64 xc.1) ∧ w'.cell? ⟨bc, 1, none⟩ = some (.slice x_c n_c c_c) ∧ w'.cell? ⟨bx, 0, none⟩ = some (.slice x_xa n_xa c_xa) ∧ w'.cell? ⟨bx, 1, none⟩ = some (.slice x_xb n_xb c_xb) ∧ w'.cell? ⟨bx, 2, none⟩ = some (.slice x_xc n_xc c_xc) ∧ w'.cell? ⟨bx, 3, none⟩ = some (.int .i64 xx.2.2.2.1) ∧ w'.cell? ⟨bx, 4, none⟩ = some (.int .i64 xx.2.2.2.2) ∧ w'.cell? ⟨bd, 0, none⟩ = some (.int .i64 xd.1) ∧ w'.cell? ⟨bd, 1, none⟩ = some (.slice x_d n_d c_d) ∧ w'.cell? ⟨bk, 0, none⟩ = some (.int .i64 xk.1) ∧ w'.cell? ⟨bk, 1, none⟩ = some (.slice x_k n_k c_k) ∧ w'.cell? ⟨bn, 0, none⟩ = some (.slice x_n n_n c_n) ∧ w'.cell? ⟨by_, 0, none⟩ = some (.slice x_ya n_ya c_ya) ∧ w'.cell? ⟨by_, 1, none⟩ = some (.slice x_yb n_yb c_yb) ∧ w'.cell? ⟨by_, 2, none⟩ = some (.slice x_yc n_yc c_yc) ∧ w'.cell? ⟨by_, 3, none⟩ = some (.int .i64 xy.2.2.2.1) ∧ w'.cell? ⟨by_, 4, none⟩ = some (.int .i64 xy.2.2.2.2) ∧ w'.cell? ⟨bz, 0, none⟩ = some (.slice x_za n_za c_za) ∧ w'.cell? ⟨bz, 1, none⟩ = some (.slice x_zb n_zb c_zb) ∧ w'.cell? ⟨bz, 2, none⟩ = some (.slice x_zc n_zc c_zc) ∧ w'.cell? ⟨bz, 3, none⟩ = some (.int .i64 xy.2.2.2.1) ∧ w'.cell? ⟨bz, 4, none⟩ = some (.int .i64 xy.2.2.2.2) ∧ w'.cell? ⟨bs, 0, none⟩ = some (.int .i64 xs.1) ∧ w'.cell? ⟨bs, 1, none⟩ = some (.slice x_s n_s c_s) ∧ w'.cell? ⟨ba, 0, none⟩ = some (.int .i64 xa.1) ∧ w'.cell? ⟨ba, 1, none⟩ = some (.slice x_a n_a c_a) ∧ w'.cell? ⟨bb, 0, none⟩ = some (.int .i64 xb.1) ∧ w'.cell? ⟨bb, 1, none⟩ = some (.slice x_b n_b c_b))) (by kernel_rfl) ?_ (fun hHeld => ?_)
 ·
  exact ⟨kc K0_c.out BB.out, kc K1_c.out BB.out, kc K0_x.out BB.out, kc K1_x.out BB.out, kc K2_x.out BB.out, kc K3_x.out BB.out, kc K4_x.out BB.out, kc K0_d.out BB.out, kc K1_d.out BB.out, kc K0_k.out BB.out, kc K1_k.out BB.out, kc K0_n.out BB.out, kc K0_y.out BB.out, kc K1_y.out BB.out, kc K2_y.out BB.out, kc K3_y.out BB.out, kc K4_y.out BB.out, kc K0_z.out BB.out, kc K1_z.out BB.out, kc K2_z.out BB.out, kc K3_z.out BB.out, kc K4_z.out BB.out, kc K0_s.out BB.out, kc K1_s.out BB.out, kc K0_a.out BB.out, kc K1_a.out BB.out, kc K0_b.out BB.out, kc K1_b.out BB.out⟩
 clear hdr
 generalize w.drew = wd at *
 refine wpAnyH_take (i := 0) (oi := ⟨some 65, .load 26 (.tmp 6), 26, "laws.go:740", #[], none⟩) (v := ?_) rfl (by kernel_rfl) (by kernel_rfl) (by kernel_rfl) (fun _ _ _ h => h) (Or.inl ⟨by rfl, ?_⟩) (by assumption) ?_
 rotate_left
 ·
  intro w' hSw; (try dsimp only at hSw); first | (go_simp; done) | (go_simp; with_reducible rfl)
 (try simp only [Act.put, Row.pB0, Row.pB1, Row.pB2])
 refine wpAnyH_take (i := 1) (oi := ⟨some 66, .load 26 (.tmp 3), 26, "laws.go:740", #[], none⟩) (v := ?_) rfl (by kernel_rfl) (by kernel_rfl) (by kernel_rfl) (fun _ _ _ h => h) (Or.inl ⟨by rfl, ?_⟩) (by assumption) ?_
 rotate_left
 ·
  intro w' hSw; (try dsimp only at hSw); first | (go_simp; done) | (go_simp; with_reducible rfl)
 (try simp only [Act.put, Row.pB0, Row.pB1, Row.pB2])
 refine wpAnyH_take (i := 2) (oi := ⟨some 67, .load 31 (.tmp 4), 31, "laws.go:740", #[], none⟩) (v := ?_) rfl (by kernel_rfl) (by kernel_rfl) (by kernel_rfl) (fun _ _ _ h => h) (Or.inl ⟨by rfl, ?_⟩) (by assumption) ?_
 rotate_left
 ·
  intro w' hSw; (try dsimp only at hSw); first | (go_simp; done) | (go_simp; with_reducible rfl)
 (try simp only [Act.put, Row.pB0, Row.pB1, Row.pB2])
 refine wpAnyH_take (i := 3) (oi := ⟨some 68, .move (.tmp 5), 3, "laws.go:740", #[], none⟩) (v := ?_) rfl (by kernel_rfl) (by kernel_rfl) (by kernel_rfl) (fun _ _ _ h => h) (Or.inl ⟨by rfl, ?_⟩) (by assumption) ?_
 rotate_left
 ·
  intro w' hSw; (try dsimp only at hSw); first | (go_simp; done) | (go_simp; with_reducible rfl)
 (try simp only [Act.put, Row.pB0, Row.pB1, Row.pB2])
 refine wpAnyH_ready (rs := [4]) (by kernel_rfl) (by simp) ?_
 refine AllReadyH.cons (o := ⟨some 69, .call ⟨.value (.func 14), #[.tmp 66, .tmp 67, .tmp 68], #[26, 31, 3]⟩, 26, "laws.go:740", #[⟨1, .data⟩, ⟨2, .data⟩, ⟨3, .data⟩], none⟩) rfl (fun K hK => ?_) AllReadyH.nil
 go_simp
 refine (sCdV _ now HCD.out (H_c.out.on BB.out) (H_x.out.on BB.out) s_c.out HBX.out).mono ?_
 rintro e wn1 ⟨U_g1, rfl, ho, hb⟩
 obtain ⟨x_g1, n_g1, c_g1, rfl, ho⟩ := kCn_shape ho
 have R_g1 := Lib.hid ho.at; clear ho
 replace BB := Lib.hid (BB.out.trans (hb.mono BB.out.size))
 clear hb
 (try go_wp2_with fail)
 clear hHeld
 refine hK.out _ _ ?_ (fun hHeld => ?_)
 ·
  (try dsimp only); exact ⟨kc K0_c.out BB.out, kc K1_c.out BB.out, kc K0_x.out BB.out, kc K1_x.out BB.out, kc K2_x.out BB.out, kc K3_x.out BB.out, kc K4_x.out BB.out, kc K0_d.out BB.out, kc K1_d.out BB.out, kc K0_k.out BB.out, kc K1_k.out BB.out, kc K0_n.out BB.out, kc K0_y.out BB.out, kc K1_y.out BB.out, kc K2_y.out BB.out, kc K3_y.out BB.out, kc K4_y.out BB.out, kc K0_z.out BB.out, kc K1_z.out BB.out, kc K2_z.out BB.out, kc K3_z.out BB.out, kc K4_z.out BB.out, kc K0_s.out BB.out, kc K1_s.out BB.out, kc K0_a.out BB.out, kc K1_a.out BB.out, kc K0_b.out BB.out, kc K1_b.out BB.out⟩
 clear hK K
 (try simp only [Act.put, Row.pB0, Row.pB1, Row.pB2])
 refine wpAnyH_ready (rs := [5]) (by kernel_rfl) (by simp) ?_
 refine AllReadyH.cons (o := ⟨some 70, .call ⟨.value (.func 13), #[.tmp 65, .tmp 69], #[26, 26]⟩, 4, "laws.go:740", #[⟨0, .data⟩, ⟨4, .data⟩, ⟨4, .chain⟩], none⟩) rfl (fun K hK => ?_) AllReadyH.nil
 go_simp
 refine (sameCV (H_d.out.on BB.out) R_g1.out s_d.out).mono ?_
 rintro e wn2 ⟨rfl, hb⟩
 replace R_g1 := Lib.hid (R_g1.out.on hb)
 replace BB := Lib.hid (BB.out.trans (hb.mono BB.out.size))
 clear hb
 (try go_wp2_with fail)
 clear hHeld
 refine hK.out _ _ ?_ (fun hHeld => ?_)
 ·
  (try dsimp only); exact ⟨kc K0_c.out BB.out, kc K1_c.out BB.out, kc K0_x.out BB.out, kc K1_x.out BB.out, kc K2_x.out BB.out, kc K3_x.out BB.out, kc K4_x.out BB.out, kc K0_d.out BB.out, kc K1_d.out BB.out, kc K0_k.out BB.out, kc K1_k.out BB.out, kc K0_n.out BB.out, kc K0_y.out BB.out, kc K1_y.out BB.out, kc K2_y.out BB.out, kc K3_y.out BB.out, kc K4_y.out BB.out, kc K0_z.out BB.out, kc K1_z.out BB.out, kc K2_z.out BB.out, kc K3_z.out BB.out, kc K4_z.out BB.out, kc K0_s.out BB.out, kc K1_s.out BB.out, kc K0_a.out BB.out, kc K1_a.out BB.out, kc K0_b.out BB.out, kc K1_b.out BB.out⟩
 clear hK K
 (try simp only [Act.put, Row.pB0, Row.pB1, Row.pB2])
 refine wpAnyH_take (i := 6) (oi := ⟨some 71, .unOp UnOp.not 4 (.tmp 70), 4, "laws.go:740", #[⟨5, .data⟩], none⟩) (v := ?_) rfl (by kernel_rfl) (by kernel_rfl) (by kernel_rfl) (fun _ _ _ h => h) (Or.inl ⟨by rfl, ?_⟩) (by assumption) ?_
 rotate_left
 ·
  intro w' hSw; (try dsimp only at hSw); first | (go_simp; done) | (go_simp; with_reducible rfl)
 (try simp only [Act.put, Row.pB0, Row.pB1, Row.pB2])
 refine wpAnyH_take (i := 7) (oi := ⟨some 72, .move (.tmp 71), 4, "laws.go:740", #[⟨6, .data⟩, ⟨5, .chain⟩], none⟩) (v := ?_) rfl (by kernel_rfl) (by kernel_rfl) (by kernel_rfl) (fun _ _ _ h => h) (Or.inl ⟨by rfl, ?_⟩) (by assumption) ?_
 rotate_left
 ·
  intro w' hSw; (try dsimp only at hSw); first | (go_simp; done) | (go_simp; with_reducible rfl)
 (try simp only [Act.put, Row.pB0, Row.pB1, Row.pB2])
 refine wpAnyH_take (i := 8) (oi := ⟨some 73, .load 31 (.tmp 10), 31, "laws.go:740", #[⟨7, .guard⟩], some (7, false)⟩) (v := ?_) rfl (by kernel_rfl) (by kernel_rfl) (by kernel_rfl) (fun _ _ _ h => h) (Or.inl ⟨by rfl, ?_⟩) (by assumption) ?_
 rotate_left
 ·
  intro w' hSw; (try dsimp only at hSw); first | (go_simp; done) | (go_simp; with_reducible rfl)
 (try simp only [Act.put, Row.pB0, Row.pB1, Row.pB2])
 refine wpAnyH_take (i := 9) (oi := ⟨some 74, .load 31 (.tmp 12), 31, "laws.go:740", #[⟨7, .guard⟩], some (7, false)⟩) (v := ?_) rfl (by kernel_rfl) (by kernel_rfl) (by kernel_rfl) (fun _ _ _ h => h) (Or.inl ⟨by rfl, ?_⟩) (by assumption) ?_
 rotate_left
 ·
  intro w' hSw; (try dsimp only at hSw); first | (go_simp; done) | (go_simp; with_reducible rfl)
 (try simp only [Act.put, Row.pB0, Row.pB1, Row.pB2])
 refine wpAnyH_ready (rs := [10]) (by kernel_rfl) (by simp) ?_
 refine AllReadyH.cons (o := ⟨some 75, .call ⟨.value (.func 15), #[.tmp 73, .tmp 74], #[31, 31]⟩, 4, "laws.go:740", #[⟨8, .data⟩, ⟨9, .data⟩, ⟨7, .chain⟩, ⟨7, .guard⟩], some (7, false)⟩) rfl (fun K hK => ?_) AllReadyH.nil
 go_simp
 refine (sameZV (H_y.out.on BB.out) (H_z.out.on BB.out) HIY.out HBY.out).mono ?_
 rintro e wn3 ⟨rfl, hb⟩
 replace R_g1 := Lib.hid (R_g1.out.on hb)
 replace BB := Lib.hid (BB.out.trans (hb.mono BB.out.size))
 clear hb
 (try go_wp2_with fail)
 clear hHeld
 refine hK.out _ _ ?_ (fun hHeld => ?_)
 ·
  (try dsimp only); exact ⟨kc K0_c.out BB.out, kc K1_c.out BB.out, kc K0_x.out BB.out, kc K1_x.out BB.out, kc K2_x.out BB.out, kc K3_x.out BB.out, kc K4_x.out BB.out, kc K0_d.out BB.out, kc K1_d.out BB.out, kc K0_k.out BB.out, kc K1_k.out BB.out, kc K0_n.out BB.out, kc K0_y.out BB.out, kc K1_y.out BB.out, kc K2_y.out BB.out, kc K3_y.out BB.out, kc K4_y.out BB.out, kc K0_z.out BB.out, kc K1_z.out BB.out, kc K2_z.out BB.out, kc K3_z.out BB.out, kc K4_z.out BB.out, kc K0_s.out BB.out, kc K1_s.out BB.out, kc K0_a.out BB.out, kc K1_a.out BB.out, kc K0_b.out BB.out, kc K1_b.out BB.out⟩
 clear hK K
 (try simp only [Act.put, Row.pB0, Row.pB1, Row.pB2])
 refine wpAnyH_take (i := 11) (oi := ⟨some 76, .unOp UnOp.not 4 (.tmp 75), 4, "laws.go:740", #[⟨10, .data⟩, ⟨7, .guard⟩], some (7, false)⟩) (v := ?_) rfl (by kernel_rfl) (by kernel_rfl) (by kernel_rfl) (fun _ _ _ h => h) (Or.inl ⟨by rfl, ?_⟩) (by assumption) ?_
 rotate_left
 ·
  intro w' hSw; (try dsimp only at hSw); first | (go_simp; done) | (go_simp; with_reducible rfl)
 (try simp only [Act.put, Row.pB0, Row.pB1, Row.pB2])
 refine wpAnyH_take (i := 12) (oi := ⟨some 77, .pick (.tmp 72) (.const (Value.bool true)) (.tmp 76), 4, "laws.go:740", #[⟨7, .data⟩, ⟨11, .data⟩], none⟩) (v := ?_) rfl (by kernel_rfl) (by kernel_rfl) (by kernel_rfl) (fun _ _ _ h => h) (Or.inl ⟨by rfl, ?_⟩) (by assumption) ?_
 rotate_left
 ·
  intro w' hSw; (try dsimp only at hSw); first | (go_simp; done) | (go_simp; with_reducible rfl)
 (try simp only [Act.put, Row.pB0, Row.pB1, Row.pB2])
 refine wpAnyH_take (i := 13) (oi := ⟨some 78, .move (.tmp 77), 4, "laws.go:740", #[⟨12, .data⟩, ⟨10, .chain⟩], none⟩) (v := ?_) rfl (by kernel_rfl) (by kernel_rfl) (by kernel_rfl) (fun _ _ _ h => h) (Or.inl ⟨by rfl, ?_⟩) (by assumption) ?_
 rotate_left
 ·
  intro w' hSw; (try dsimp only at hSw); first | (go_simp; done) | (go_simp; with_reducible rfl)
 (try simp only [Act.put, Row.pB0, Row.pB1, Row.pB2])
 refine wpAnyH_take (i := 14) (oi := ⟨some 79, .move (.tmp 11), 4, "laws.go:740", #[⟨13, .guard⟩], some (13, false)⟩) (v := ?_) rfl (by kernel_rfl) (by kernel_rfl) (by kernel_rfl) (fun _ _ _ h => h) (Or.inl ⟨by rfl, ?_⟩) (by assumption) ?_
 rotate_left
 ·
  intro w' hSw; (try dsimp only at hSw); first | (go_simp; done) | (go_simp; with_reducible rfl)
 (try simp only [Act.put, Row.pB0, Row.pB1, Row.pB2])
 refine wpAnyH_take (i := 15) (oi := ⟨some 80, .move (.tmp 13), 4, "laws.go:740", #[⟨13, .guard⟩], some (13, false)⟩) (v := ?_) rfl (by kernel_rfl) (by kernel_rfl) (by kernel_rfl) (fun _ _ _ h => h) (Or.inl ⟨by rfl, ?_⟩) (by assumption) ?_
 rotate_left
 ·
  intro w' hSw; (try dsimp only at hSw); first | (go_simp; done) | (go_simp; with_reducible rfl)
 (try simp only [Act.put, Row.pB0, Row.pB1, Row.pB2])
 refine wpAnyH_take (i := 16) (oi := ⟨some 81, .binOp BinOp.neq 4 (.tmp 79) (.tmp 80) 4, 4, "laws.go:740", #[⟨14, .data⟩, ⟨15, .data⟩, ⟨13, .guard⟩], some (13, false)⟩) (v := ?_) rfl (by kernel_rfl) (by kernel_rfl) (by kernel_rfl) (fun _ _ _ h => h) (Or.inl ⟨by rfl, ?_⟩) (by assumption) ?_
 rotate_left
 ·
  intro w' hSw; (try dsimp only at hSw); first | (go_simp; done) | (go_simp; with_reducible rfl)
 (try simp only [Act.put, Row.pB0, Row.pB1, Row.pB2])
 refine wpAnyH_take (i := 17) (oi := ⟨some 82, .pick (.tmp 78) (.const (Value.bool true)) (.tmp 81), 4, "laws.go:740", #[⟨13, .data⟩, ⟨16, .data⟩], none⟩) (v := ?_) rfl (by kernel_rfl) (by kernel_rfl) (by kernel_rfl) (fun _ _ _ h => h) (Or.inl ⟨by rfl, ?_⟩) (by assumption) ?_
 rotate_left
 ·
  intro w' hSw; (try dsimp only at hSw); first | (go_simp; done) | (go_simp; with_reducible rfl)
 (try simp only [Act.put, Row.pB0, Row.pB1, Row.pB2])
 refine wpAnyH_take (i := 18) (oi := ⟨some 83, .move (.tmp 82), 4, "laws.go:740", #[⟨17, .data⟩, ⟨13, .chain⟩], none⟩) (v := ?_) rfl (by kernel_rfl) (by kernel_rfl) (by kernel_rfl) (fun _ _ _ h => h) (Or.inl ⟨by rfl, ?_⟩) (by assumption) ?_
 rotate_left
 ·
  intro w' hSw; (try dsimp only at hSw); first | (go_simp; done) | (go_simp; with_reducible rfl)
 (try simp only [Act.put, Row.pB0, Row.pB1, Row.pB2])
 refine wpAnyH_take (i := 19) (oi := ⟨some 84, .load 26 (.tmp 7), 26, "laws.go:740", #[⟨18, .guard⟩], some (18, false)⟩) (v := ?_) rfl (by kernel_rfl) (by kernel_rfl) (by kernel_rfl) (fun _ _ _ h => h) (Or.inl ⟨by rfl, ?_⟩) (by assumption) ?_
 rotate_left
 ·
  intro w' hSw; (try dsimp only at hSw); first | (go_simp; done) | (go_simp; with_reducible rfl)
 (try simp only [Act.put, Row.pB0, Row.pB1, Row.pB2])
 refine wpAnyH_take (i := 20) (oi := ⟨some 85, .load 29 (.tmp 8), 29, "laws.go:740", #[⟨18, .guard⟩], some (18, false)⟩) (v := ?_) rfl (by kernel_rfl) (by kernel_rfl) (by kernel_rfl) (fun _ _ _ h => h) (Or.inl ⟨by rfl, ?_⟩) (by assumption) ?_
 rotate_left
 ·
  intro w' hSw; (try dsimp only at hSw); first | (go_simp; done) | (go_simp; with_reducible rfl)
 (try simp only [Act.put, Row.pB0, Row.pB1, Row.pB2])
 refine wpAnyH_take (i := 21) (oi := ⟨some 86, .move (.tmp 9), 3, "laws.go:740", #[⟨18, .guard⟩], some (18, false)⟩) (v := ?_) rfl (by kernel_rfl) (by kernel_rfl) (by kernel_rfl) (fun _ _ _ h => h) (Or.inl ⟨by rfl, ?_⟩) (by assumption) ?_
 rotate_left
 ·
  intro w' hSw; (try dsimp only at hSw); first | (go_simp; done) | (go_simp; with_reducible rfl)
 (try simp only [Act.put, Row.pB0, Row.pB1, Row.pB2])
 refine wpAnyH_take (i := 23) (oi := ⟨some 88, .load 26 (.tmp 7), 26, "laws.go:740", #[⟨18, .guard⟩], some (18, false)⟩) (v := ?_) rfl (by kernel_rfl) (by kernel_rfl) (by kernel_rfl) (fun _ _ _ h => h) (Or.inl ⟨by rfl, ?_⟩) (by assumption) ?_
 rotate_left
 ·
  intro w' hSw; (try dsimp only at hSw); first | (go_simp; done) | (go_simp; with_reducible rfl)
 (try simp only [Act.put, Row.pB0, Row.pB1, Row.pB2])
 refine wpAnyH_take (i := 24) (oi := ⟨some 89, .load 29 (.tmp 8), 29, "laws.go:740", #[⟨18, .guard⟩], some (18, false)⟩) (v := ?_) rfl (by kernel_rfl) (by kernel_rfl) (by kernel_rfl) (fun _ _ _ h => h) (Or.inl ⟨by rfl, ?_⟩) (by assumption) ?_
 rotate_left
 ·
  intro w' hSw; (try dsimp only at hSw); first | (go_simp; done) | (go_simp; with_reducible rfl)
 (try simp only [Act.put, Row.pB0, Row.pB1, Row.pB2])
 refine wpAnyH_take (i := 25) (oi := ⟨some 90, .move (.tmp 9), 3, "laws.go:740", #[⟨18, .guard⟩], some (18, false)⟩) (v := ?_) rfl (by kernel_rfl) (by kernel_rfl) (by kernel_rfl) (fun _ _ _ h => h) (Or.inl ⟨by rfl, ?_⟩) (by assumption) ?_
 rotate_left
 ·
  intro w' hSw; (try dsimp only at hSw); first | (go_simp; done) | (go_simp; with_reducible rfl)
 (try simp only [Act.put, Row.pB0, Row.pB1, Row.pB2])
 refine wpAnyH_ready (rs := [22]) (by kernel_rfl) (by simp) ?_
 refine AllReadyH.cons (o := ⟨some 87, .call ⟨.value (.func 16), #[.tmp 84, .tmp 85, .tmp 86], #[26, 29, 3]⟩, 26, "laws.go:740", #[⟨19, .data⟩, ⟨20, .data⟩, ⟨21, .data⟩, ⟨18, .chain⟩, ⟨18, .guard⟩], some (18, false)⟩) rfl (fun K hK => ?_) AllReadyH.nil
 go_simp
 refine (iToV _ t HTO.out (H_k.out.on BB.out) (H_n.out.on BB.out) s_k.out HBN.out).mono ?_
 rintro e wn4 ⟨U_g2, rfl, ho, hb⟩
 obtain ⟨x_g2, n_g2, c_g2, rfl, ho⟩ := kCn_shape ho
 have R_g2 := Lib.hid ho.at; clear ho
 replace R_g1 := Lib.hid (R_g1.out.on hb)
 replace BB := Lib.hid (BB.out.trans (hb.mono BB.out.size))
 clear hb
 (try go_wp2_with fail)
 clear hHeld
 refine hK.out _ _ ?_ (fun hHeld => ?_)
 ·
  (try dsimp only); exact ⟨kc K0_c.out BB.out, kc K1_c.out BB.out, kc K0_x.out BB.out, kc K1_x.out BB.out, kc K2_x.out BB.out, kc K3_x.out BB.out, kc K4_x.out BB.out, kc K0_d.out BB.out, kc K1_d.out BB.out, kc K0_k.out BB.out, kc K1_k.out BB.out, kc K0_n.out BB.out, kc K0_y.out BB.out, kc K1_y.out BB.out, kc K2_y.out BB.out, kc K3_y.out BB.out, kc K4_y.out BB.out, kc K0_z.out BB.out, kc K1_z.out BB.out, kc K2_z.out BB.out, kc K3_z.out BB.out, kc K4_z.out BB.out, kc K0_s.out BB.out, kc K1_s.out BB.out, kc K0_a.out BB.out, kc K1_a.out BB.out, kc K0_b.out BB.out, kc K1_b.out BB.out⟩
 clear hK K
 (try simp only [Act.put, Row.pB0, Row.pB1, Row.pB2])
 refine wpAnyH_ready (rs := [26]) (by kernel_rfl) (by simp) ?_
 refine AllReadyH.cons (o := ⟨some 91, .call ⟨.value (.func 17), #[.tmp 88, .tmp 89, .tmp 90], #[26, 29, 3]⟩, 26, "laws.go:740", #[⟨23, .data⟩, ⟨24, .data⟩, ⟨25, .data⟩, ⟨22, .chain⟩, ⟨18, .guard⟩], some (18, false)⟩) rfl (fun K hK => ?_) AllReadyH.nil
 go_simp
 refine (sToV _ t HTO.out (H_k.out.on BB.out) (H_n.out.on BB.out) s_k.out HBN.out).mono ?_
 rintro e wn5 ⟨U_g3, rfl, ho, hb⟩
 obtain ⟨x_g3, n_g3, c_g3, rfl, ho⟩ := kCn_shape ho
 have R_g3 := Lib.hid ho.at; clear ho
 replace R_g1 := Lib.hid (R_g1.out.on hb)
 replace R_g2 := Lib.hid (R_g2.out.on hb)
 replace BB := Lib.hid (BB.out.trans (hb.mono BB.out.size))
 clear hb
 (try go_wp2_with fail)
 clear hHeld
 refine hK.out _ _ ?_ (fun hHeld => ?_)
 ·
  (try dsimp only); exact ⟨kc K0_c.out BB.out, kc K1_c.out BB.out, kc K0_x.out BB.out, kc K1_x.out BB.out, kc K2_x.out BB.out, kc K3_x.out BB.out, kc K4_x.out BB.out, kc K0_d.out BB.out, kc K1_d.out BB.out, kc K0_k.out BB.out, kc K1_k.out BB.out, kc K0_n.out BB.out, kc K0_y.out BB.out, kc K1_y.out BB.out, kc K2_y.out BB.out, kc K3_y.out BB.out, kc K4_y.out BB.out, kc K0_z.out BB.out, kc K1_z.out BB.out, kc K2_z.out BB.out, kc K3_z.out BB.out, kc K4_z.out BB.out, kc K0_s.out BB.out, kc K1_s.out BB.out, kc K0_a.out BB.out, kc K1_a.out BB.out, kc K0_b.out BB.out, kc K1_b.out BB.out⟩
 clear hK K
 (try simp only [Act.put, Row.pB0, Row.pB1, Row.pB2])
 refine wpAnyH_ready (rs := [27]) (by kernel_rfl) (by simp) ?_
 refine AllReadyH.cons (o := ⟨some 92, .call ⟨.value (.func 13), #[.tmp 87, .tmp 91], #[26, 26]⟩, 4, "laws.go:740", #[⟨22, .data⟩, ⟨26, .data⟩, ⟨26, .chain⟩, ⟨18, .guard⟩], some (18, false)⟩) rfl (fun K hK => ?_) AllReadyH.nil
 go_simp
 refine (sameCV R_g2.out R_g3.out s_t.out).mono ?_
 rintro e wn6 ⟨rfl, hb⟩
 replace R_g1 := Lib.hid (R_g1.out.on hb)
 replace R_g2 := Lib.hid (R_g2.out.on hb)
 replace R_g3 := Lib.hid (R_g3.out.on hb)
 replace BB := Lib.hid (BB.out.trans (hb.mono BB.out.size))
 clear hb
 (try go_wp2_with fail)
 clear hHeld
 refine hK.out _ _ ?_ (fun hHeld => ?_)
 ·
  (try dsimp only); exact ⟨kc K0_c.out BB.out, kc K1_c.out BB.out, kc K0_x.out BB.out, kc K1_x.out BB.out, kc K2_x.out BB.out, kc K3_x.out BB.out, kc K4_x.out BB.out, kc K0_d.out BB.out, kc K1_d.out BB.out, kc K0_k.out BB.out, kc K1_k.out BB.out, kc K0_n.out BB.out, kc K0_y.out BB.out, kc K1_y.out BB.out, kc K2_y.out BB.out, kc K3_y.out BB.out, kc K4_y.out BB.out, kc K0_z.out BB.out, kc K1_z.out BB.out, kc K2_z.out BB.out, kc K3_z.out BB.out, kc K4_z.out BB.out, kc K0_s.out BB.out, kc K1_s.out BB.out, kc K0_a.out BB.out, kc K1_a.out BB.out, kc K0_b.out BB.out, kc K1_b.out BB.out⟩
 clear hK K
 (try simp only [Act.put, Row.pB0, Row.pB1, Row.pB2])
 refine wpAnyH_take (i := 28) (oi := ⟨some 93, .unOp UnOp.not 4 (.tmp 92), 4, "laws.go:740", #[⟨27, .data⟩, ⟨18, .guard⟩], some (18, false)⟩) (v := ?_) rfl (by kernel_rfl) (by kernel_rfl) (by kernel_rfl) (fun _ _ _ h => h) (Or.inl ⟨by rfl, ?_⟩) (by assumption) ?_
 rotate_left
 ·
  intro w' hSw; (try dsimp only at hSw); first | (go_simp; done) | (go_simp; with_reducible rfl)
 (try simp only [Act.put, Row.pB0, Row.pB1, Row.pB2])
 refine wpAnyH_take (i := 29) (oi := ⟨some 94, .pick (.tmp 83) (.const (Value.bool true)) (.tmp 93), 4, "laws.go:740", #[⟨18, .data⟩, ⟨28, .data⟩], none⟩) (v := ?_) rfl (by kernel_rfl) (by kernel_rfl) (by kernel_rfl) (fun _ _ _ h => h) (Or.inl ⟨by rfl, ?_⟩) (by assumption) ?_
 rotate_left
 ·
  intro w' hSw; (try dsimp only at hSw); first | (go_simp; done) | (go_simp; with_reducible rfl)
 (try simp only [Act.put, Row.pB0, Row.pB1, Row.pB2])
 refine wpAnyH_take (i := 30) (oi := ⟨some 95, .move (.tmp 94), 4, "laws.go:740", #[⟨29, .data⟩, ⟨27, .chain⟩], none⟩) (v := ?_) rfl (by kernel_rfl) (by kernel_rfl) (by kernel_rfl) (fun _ _ _ h => h) (Or.inl ⟨by rfl, ?_⟩) (by assumption) ?_
 rotate_left
 ·
  intro w' hSw; (try dsimp only at hSw); first | (go_simp; done) | (go_simp; with_reducible rfl)
 (try simp only [Act.put, Row.pB0, Row.pB1, Row.pB2])
 refine wpAnyH_take (i := 31) (oi := ⟨some 96, .load 26 (.tmp 14), 26, "laws.go:740", #[⟨30, .guard⟩], some (30, false)⟩) (v := ?_) rfl (by kernel_rfl) (by kernel_rfl) (by kernel_rfl) (fun _ _ _ h => h) (Or.inl ⟨by rfl, ?_⟩) (by assumption) ?_
 rotate_left
 ·
  intro w' hSw; (try dsimp only at hSw); first | (go_simp; done) | (go_simp; with_reducible rfl)
 (try simp only [Act.put, Row.pB0, Row.pB1, Row.pB2])
 refine wpAnyH_take (i := 32) (oi := ⟨some 97, .move (.tmp 15), 3, "laws.go:740", #[⟨30, .guard⟩], some (30, false)⟩) (v := ?_) rfl (by kernel_rfl) (by kernel_rfl) (by kernel_rfl) (fun _ _ _ h => h) (Or.inl ⟨by rfl, ?_⟩) (by assumption) ?_
 rotate_left
 ·
  intro w' hSw; (try dsimp only at hSw); first | (go_simp; done) | (go_simp; with_reducible rfl)
 (try simp only [Act.put, Row.pB0, Row.pB1, Row.pB2])
 refine wpAnyH_take (i := 34) (oi := ⟨some 99, .load 26 (.tmp 14), 26, "laws.go:740", #[⟨30, .guard⟩], some (30, false)⟩) (v := ?_) rfl (by kernel_rfl) (by kernel_rfl) (by kernel_rfl) (fun _ _ _ h => h) (Or.inl ⟨by rfl, ?_⟩) (by assumption) ?_
 rotate_left
 ·
  intro w' hSw; (try dsimp only at hSw); first | (go_simp; done) | (go_simp; with_reducible rfl)
 (try simp only [Act.put, Row.pB0, Row.pB1, Row.pB2])
 refine wpAnyH_take (i := 35) (oi := ⟨some 100, .move (.tmp 15), 3, "laws.go:740", #[⟨30, .guard⟩], some (30, false)⟩) (v := ?_) rfl (by kernel_rfl) (by kernel_rfl) (by kernel_rfl) (fun _ _ _ h => h) (Or.inl ⟨by rfl, ?_⟩) (by assumption) ?_
 rotate_left
 ·
  intro w' hSw; (try dsimp only at hSw); first | (go_simp; done) | (go_simp; with_reducible rfl)
 (try simp only [Act.put, Row.pB0, Row.pB1, Row.pB2])
 refine wpAnyH_ready (rs := [33]) (by kernel_rfl) (by simp) ?_
 refine AllReadyH.cons (o := ⟨some 98, .call ⟨.value (.func 18), #[.tmp 96, .tmp 97], #[26, 3]⟩, 26, "laws.go:740", #[⟨31, .data⟩, ⟨32, .data⟩, ⟨30, .chain⟩, ⟨30, .guard⟩], some (30, false)⟩) rfl (fun K hK => ?_) AllReadyH.nil
 go_simp
 refine (iEvV _ wh HEV.out (H_s.out.on BB.out) s_s.out).mono ?_
 rintro e wn7 ⟨U_g4, rfl, ho, hb⟩
 obtain ⟨x_g4, n_g4, c_g4, rfl, ho⟩ := kCn_shape ho
 have R_g4 := Lib.hid ho.at; clear ho
 replace R_g1 := Lib.hid (R_g1.out.on hb)
 replace R_g2 := Lib.hid (R_g2.out.on hb)
 replace R_g3 := Lib.hid (R_g3.out.on hb)
 replace BB := Lib.hid (BB.out.trans (hb.mono BB.out.size))
 clear hb
 (try go_wp2_with fail)
 clear hHeld
 refine hK.out _ _ ?_ (fun hHeld => ?_)
 ·
  (try dsimp only); exact ⟨kc K0_c.out BB.out, kc K1_c.out BB.out, kc K0_x.out BB.out, kc K1_x.out BB.out, kc K2_x.out BB.out, kc K3_x.out BB.out, kc K4_x.out BB.out, kc K0_d.out BB.out, kc K1_d.out BB.out, kc K0_k.out BB.out, kc K1_k.out BB.out, kc K0_n.out BB.out, kc K0_y.out BB.out, kc K1_y.out BB.out, kc K2_y.out BB.out, kc K3_y.out BB.out, kc K4_y.out BB.out, kc K0_z.out BB.out, kc K1_z.out BB.out, kc K2_z.out BB.out, kc K3_z.out BB.out, kc K4_z.out BB.out, kc K0_s.out BB.out, kc K1_s.out BB.out, kc K0_a.out BB.out, kc K1_a.out BB.out, kc K0_b.out BB.out, kc K1_b.out BB.out⟩
 clear hK K
 (try simp only [Act.put, Row.pB0, Row.pB1, Row.pB2])
 refine wpAnyH_ready (rs := [36]) (by kernel_rfl) (by simp) ?_
 refine AllReadyH.cons (o := ⟨some 101, .call ⟨.value (.func 19), #[.tmp 99, .tmp 100], #[26, 3]⟩, 26, "laws.go:740", #[⟨34, .data⟩, ⟨35, .data⟩, ⟨33, .chain⟩, ⟨30, .guard⟩], some (30, false)⟩) rfl (fun K hK => ?_) AllReadyH.nil
 go_simp
 refine (sEvV _ wh HEV.out (H_s.out.on BB.out) s_s.out).mono ?_
 rintro e wn8 ⟨U_g5, rfl, ho, hb⟩
 obtain ⟨x_g5, n_g5, c_g5, rfl, ho⟩ := kCn_shape ho
 have R_g5 := Lib.hid ho.at; clear ho
 replace R_g1 := Lib.hid (R_g1.out.on hb)
 replace R_g2 := Lib.hid (R_g2.out.on hb)
 replace R_g3 := Lib.hid (R_g3.out.on hb)
 replace R_g4 := Lib.hid (R_g4.out.on hb)
 replace BB := Lib.hid (BB.out.trans (hb.mono BB.out.size))
 clear hb
 (try go_wp2_with fail)
 clear hHeld
 refine hK.out _ _ ?_ (fun hHeld => ?_)
 ·
  (try dsimp only); exact ⟨kc K0_c.out BB.out, kc K1_c.out BB.out, kc K0_x.out BB.out, kc K1_x.out BB.out, kc K2_x.out BB.out, kc K3_x.out BB.out, kc K4_x.out BB.out, kc K0_d.out BB.out, kc K1_d.out BB.out, kc K0_k.out BB.out, kc K1_k.out BB.out, kc K0_n.out BB.out, kc K0_y.out BB.out, kc K1_y.out BB.out, kc K2_y.out BB.out, kc K3_y.out BB.out, kc K4_y.out BB.out, kc K0_z.out BB.out, kc K1_z.out BB.out, kc K2_z.out BB.out, kc K3_z.out BB.out, kc K4_z.out BB.out, kc K0_s.out BB.out, kc K1_s.out BB.out, kc K0_a.out BB.out, kc K1_a.out BB.out, kc K0_b.out BB.out, kc K1_b.out BB.out⟩
 clear hK K
 (try simp only [Act.put, Row.pB0, Row.pB1, Row.pB2])
 refine wpAnyH_ready (rs := [37]) (by kernel_rfl) (by simp) ?_
 refine AllReadyH.cons (o := ⟨some 102, .call ⟨.value (.func 13), #[.tmp 98, .tmp 101], #[26, 26]⟩, 4, "laws.go:740", #[⟨33, .data⟩, ⟨36, .data⟩, ⟨36, .chain⟩, ⟨30, .guard⟩], some (30, false)⟩) rfl (fun K hK => ?_) AllReadyH.nil
 go_simp
 refine (sameCV R_g4.out R_g5.out s_v.out).mono ?_
 rintro e wn9 ⟨rfl, hb⟩
 replace R_g1 := Lib.hid (R_g1.out.on hb)
 replace R_g2 := Lib.hid (R_g2.out.on hb)
 replace R_g3 := Lib.hid (R_g3.out.on hb)
 replace R_g4 := Lib.hid (R_g4.out.on hb)
 replace R_g5 := Lib.hid (R_g5.out.on hb)
 replace BB := Lib.hid (BB.out.trans (hb.mono BB.out.size))
 clear hb
 (try go_wp2_with fail)
 clear hHeld
 refine hK.out _ _ ?_ (fun hHeld => ?_)
 ·
  (try dsimp only); exact ⟨kc K0_c.out BB.out, kc K1_c.out BB.out, kc K0_x.out BB.out, kc K1_x.out BB.out, kc K2_x.out BB.out, kc K3_x.out BB.out, kc K4_x.out BB.out, kc K0_d.out BB.out, kc K1_d.out BB.out, kc K0_k.out BB.out, kc K1_k.out BB.out, kc K0_n.out BB.out, kc K0_y.out BB.out, kc K1_y.out BB.out, kc K2_y.out BB.out, kc K3_y.out BB.out, kc K4_y.out BB.out, kc K0_z.out BB.out, kc K1_z.out BB.out, kc K2_z.out BB.out, kc K3_z.out BB.out, kc K4_z.out BB.out, kc K0_s.out BB.out, kc K1_s.out BB.out, kc K0_a.out BB.out, kc K1_a.out BB.out, kc K0_b.out BB.out, kc K1_b.out BB.out⟩
 clear hK K
 (try simp only [Act.put, Row.pB0, Row.pB1, Row.pB2])
 refine wpAnyH_take (i := 38) (oi := ⟨some 103, .unOp UnOp.not 4 (.tmp 102), 4, "laws.go:740", #[⟨37, .data⟩, ⟨30, .guard⟩], some (30, false)⟩) (v := ?_) rfl (by kernel_rfl) (by kernel_rfl) (by kernel_rfl) (fun _ _ _ h => h) (Or.inl ⟨by rfl, ?_⟩) (by assumption) ?_
 rotate_left
 ·
  intro w' hSw; (try dsimp only at hSw); first | (go_simp; done) | (go_simp; with_reducible rfl)
 (try simp only [Act.put, Row.pB0, Row.pB1, Row.pB2])
 refine wpAnyH_take (i := 39) (oi := ⟨some 104, .pick (.tmp 95) (.const (Value.bool true)) (.tmp 103), 4, "laws.go:740", #[⟨30, .data⟩, ⟨38, .data⟩], none⟩) (v := ?_) rfl (by kernel_rfl) (by kernel_rfl) (by kernel_rfl) (fun _ _ _ h => h) (Or.inl ⟨by rfl, ?_⟩) (by assumption) ?_
 rotate_left
 ·
  intro w' hSw; (try dsimp only at hSw); first | (go_simp; done) | (go_simp; with_reducible rfl)
 (try simp only [Act.put, Row.pB0, Row.pB1, Row.pB2])
 refine wpAnyH_take (i := 40) (oi := ⟨some 105, .move (.tmp 104), 4, "laws.go:740", #[⟨39, .data⟩, ⟨37, .chain⟩], none⟩) (v := ?_) rfl (by kernel_rfl) (by kernel_rfl) (by kernel_rfl) (fun _ _ _ h => h) (Or.inl ⟨by rfl, ?_⟩) (by assumption) ?_
 rotate_left
 ·
  intro w' hSw; (try dsimp only at hSw); first | (go_simp; done) | (go_simp; with_reducible rfl)
 (try simp only [Act.put, Row.pB0, Row.pB1, Row.pB2])
 refine wpAnyH_take (i := 41) (oi := ⟨some 106, .load 26 (.tmp 16), 26, "laws.go:740", #[⟨40, .guard⟩], some (40, false)⟩) (v := ?_) rfl (by kernel_rfl) (by kernel_rfl) (by kernel_rfl) (fun _ _ _ h => h) (Or.inl ⟨by rfl, ?_⟩) (by assumption) ?_
 rotate_left
 ·
  intro w' hSw; (try dsimp only at hSw); first | (go_simp; done) | (go_simp; with_reducible rfl)
 (try simp only [Act.put, Row.pB0, Row.pB1, Row.pB2])
 refine wpAnyH_take (i := 42) (oi := ⟨some 107, .load 26 (.tmp 17), 26, "laws.go:740", #[⟨40, .guard⟩], some (40, false)⟩) (v := ?_) rfl (by kernel_rfl) (by kernel_rfl) (by kernel_rfl) (fun _ _ _ h => h) (Or.inl ⟨by rfl, ?_⟩) (by assumption) ?_
 rotate_left
 ·
  intro w' hSw; (try dsimp only at hSw); first | (go_simp; done) | (go_simp; with_reducible rfl)
 (try simp only [Act.put, Row.pB0, Row.pB1, Row.pB2])
 refine wpAnyH_take (i := 44) (oi := ⟨some 109, .load 26 (.tmp 16), 26, "laws.go:740", #[⟨40, .guard⟩], some (40, false)⟩) (v := ?_) rfl (by kernel_rfl) (by kernel_rfl) (by kernel_rfl) (fun _ _ _ h => h) (Or.inl ⟨by rfl, ?_⟩) (by assumption) ?_
 rotate_left
 ·
  intro w' hSw; (try dsimp only at hSw); first | (go_simp; done) | (go_simp; with_reducible rfl)
 (try simp only [Act.put, Row.pB0, Row.pB1, Row.pB2])
 refine wpAnyH_take (i := 45) (oi := ⟨some 110, .load 26 (.tmp 17), 26, "laws.go:740", #[⟨40, .guard⟩], some (40, false)⟩) (v := ?_) rfl (by kernel_rfl) (by kernel_rfl) (by kernel_rfl) (fun _ _ _ h => h) (Or.inl ⟨by rfl, ?_⟩) (by assumption) ?_
 rotate_left
 ·
  intro w' hSw; (try dsimp only at hSw); first | (go_simp; done) | (go_simp; with_reducible rfl)
 (try simp only [Act.put, Row.pB0, Row.pB1, Row.pB2])
 refine wpAnyH_ready (rs := [43]) (by kernel_rfl) (by simp) ?_
 refine AllReadyH.cons (o := ⟨some 108, .call ⟨.value (.func 20), #[.tmp 106, .tmp 107], #[26, 26]⟩, 4, "laws.go:740", #[⟨41, .data⟩, ⟨42, .data⟩, ⟨40, .chain⟩, ⟨40, .guard⟩], some (40, false)⟩) rfl (fun K hK => ?_) AllReadyH.nil
 go_simp
 refine (iEqCQ q1 HEQ.out (H_a.out.on BB.out) (H_b.out.on BB.out) s_a.out s_b.out).mono ?_
 rintro e wn10 ⟨rfl, hb⟩
 replace R_g1 := Lib.hid (R_g1.out.on hb)
 replace R_g2 := Lib.hid (R_g2.out.on hb)
 replace R_g3 := Lib.hid (R_g3.out.on hb)
 replace R_g4 := Lib.hid (R_g4.out.on hb)
 replace R_g5 := Lib.hid (R_g5.out.on hb)
 replace BB := Lib.hid (BB.out.trans (hb.mono BB.out.size))
 clear hb
 (try go_wp2_with fail)
 clear hHeld
 refine hK.out _ _ ?_ (fun hHeld => ?_)
 ·
  (try dsimp only); exact ⟨kc K0_c.out BB.out, kc K1_c.out BB.out, kc K0_x.out BB.out, kc K1_x.out BB.out, kc K2_x.out BB.out, kc K3_x.out BB.out, kc K4_x.out BB.out, kc K0_d.out BB.out, kc K1_d.out BB.out, kc K0_k.out BB.out, kc K1_k.out BB.out, kc K0_n.out BB.out, kc K0_y.out BB.out, kc K1_y.out BB.out, kc K2_y.out BB.out, kc K3_y.out BB.out, kc K4_y.out BB.out, kc K0_z.out BB.out, kc K1_z.out BB.out, kc K2_z.out BB.out, kc K3_z.out BB.out, kc K4_z.out BB.out, kc K0_s.out BB.out, kc K1_s.out BB.out, kc K0_a.out BB.out, kc K1_a.out BB.out, kc K0_b.out BB.out, kc K1_b.out BB.out⟩
 clear hK K
 (try simp only [Act.put, Row.pB0, Row.pB1, Row.pB2])
 refine wpAnyH_ready (rs := [46]) (by kernel_rfl) (by simp) ?_
 refine AllReadyH.cons (o := ⟨some 111, .call ⟨.value (.func 13), #[.tmp 109, .tmp 110], #[26, 26]⟩, 4, "laws.go:740", #[⟨44, .data⟩, ⟨45, .data⟩, ⟨43, .chain⟩, ⟨40, .guard⟩], some (40, false)⟩) rfl (fun K hK => ?_) AllReadyH.nil
 go_simp
 refine (sameCQ q1 HEQ.out (H_a.out.on BB.out) (H_b.out.on BB.out) s_a.out s_b.out).mono ?_
 rintro e wn11 ⟨rfl, hb⟩
 replace R_g1 := Lib.hid (R_g1.out.on hb)
 replace R_g2 := Lib.hid (R_g2.out.on hb)
 replace R_g3 := Lib.hid (R_g3.out.on hb)
 replace R_g4 := Lib.hid (R_g4.out.on hb)
 replace R_g5 := Lib.hid (R_g5.out.on hb)
 replace BB := Lib.hid (BB.out.trans (hb.mono BB.out.size))
 clear hb
 (try go_wp2_with fail)
 clear hHeld
 refine hK.out _ _ ?_ (fun hHeld => ?_)
 ·
  (try dsimp only); exact ⟨kc K0_c.out BB.out, kc K1_c.out BB.out, kc K0_x.out BB.out, kc K1_x.out BB.out, kc K2_x.out BB.out, kc K3_x.out BB.out, kc K4_x.out BB.out, kc K0_d.out BB.out, kc K1_d.out BB.out, kc K0_k.out BB.out, kc K1_k.out BB.out, kc K0_n.out BB.out, kc K0_y.out BB.out, kc K1_y.out BB.out, kc K2_y.out BB.out, kc K3_y.out BB.out, kc K4_y.out BB.out, kc K0_z.out BB.out, kc K1_z.out BB.out, kc K2_z.out BB.out, kc K3_z.out BB.out, kc K4_z.out BB.out, kc K0_s.out BB.out, kc K1_s.out BB.out, kc K0_a.out BB.out, kc K1_a.out BB.out, kc K0_b.out BB.out, kc K1_b.out BB.out⟩
 clear hK K
 (try simp only [Act.put, Row.pB0, Row.pB1, Row.pB2])
 refine wpAnyH_take (i := 47) (oi := ⟨some 112, .binOp BinOp.neq 4 (.tmp 108) (.tmp 111) 4, 4, "laws.go:740", #[⟨43, .data⟩, ⟨46, .data⟩, ⟨40, .guard⟩], some (40, false)⟩) (v := ?_) rfl (by kernel_rfl) (by kernel_rfl) (by kernel_rfl) (fun _ _ _ h => h) (Or.inl ⟨by rfl, ?_⟩) (by assumption) ?_
 rotate_left
 ·
  intro w' hSw; (try dsimp only at hSw); first | (go_simp; done) | (go_simp; with_reducible rfl)
 (try simp only [Act.put, Row.pB0, Row.pB1, Row.pB2])
 refine wpAnyH_take (i := 48) (oi := ⟨some 113, .pick (.tmp 105) (.const (Value.bool true)) (.tmp 112), 4, "laws.go:740", #[⟨40, .data⟩, ⟨47, .data⟩], none⟩) (v := ?_) rfl (by kernel_rfl) (by kernel_rfl) (by kernel_rfl) (fun _ _ _ h => h) (Or.inl ⟨by rfl, ?_⟩) (by assumption) ?_
 rotate_left
 ·
  intro w' hSw; (try dsimp only at hSw); first | (go_simp; done) | (go_simp; with_reducible rfl)
 (try simp only [Act.put, Row.pB0, Row.pB1, Row.pB2])
 refine wpAnyH_take (i := 49) (oi := ⟨some 114, .move (.tmp 113), 4, "laws.go:740", #[⟨48, .data⟩, ⟨46, .chain⟩], none⟩) (v := ?_) rfl (by kernel_rfl) (by kernel_rfl) (by kernel_rfl) (fun _ _ _ h => h) (Or.inl ⟨by rfl, ?_⟩) (by assumption) ?_
 rotate_left
 ·
  intro w' hSw; (try dsimp only at hSw); first | (go_simp; done) | (go_simp; with_reducible rfl)
 (try simp only [Act.put, Row.pB0, Row.pB1, Row.pB2])
 refine wpAnyH_take (i := 50) (oi := ⟨some 115, .move (.tmp 18), 3, "laws.go:740", #[⟨49, .guard⟩], some (49, false)⟩) (v := ?_) rfl (by kernel_rfl) (by kernel_rfl) (by kernel_rfl) (fun _ _ _ h => h) (Or.inl ⟨by rfl, ?_⟩) (by assumption) ?_
 rotate_left
 ·
  intro w' hSw; (try dsimp only at hSw); first | (go_simp; done) | (go_simp; with_reducible rfl)
 (try simp only [Act.put, Row.pB0, Row.pB1, Row.pB2])
 refine wpAnyH_take (i := 52) (oi := ⟨some 117, .move (.tmp 18), 3, "laws.go:740", #[⟨49, .guard⟩], some (49, false)⟩) (v := ?_) rfl (by kernel_rfl) (by kernel_rfl) (by kernel_rfl) (fun _ _ _ h => h) (Or.inl ⟨by rfl, ?_⟩) (by assumption) ?_
 rotate_left
 ·
  intro w' hSw; (try dsimp only at hSw); first | (go_simp; done) | (go_simp; with_reducible rfl)
 (try simp only [Act.put, Row.pB0, Row.pB1, Row.pB2])
 refine wpAnyH_ready (rs := [51]) (by kernel_rfl) (by simp) ?_
 refine AllReadyH.cons (o := ⟨some 116, .call ⟨.value (.func 21), #[.tmp 115], #[3]⟩, 26, "laws.go:740", #[⟨50, .data⟩, ⟨49, .chain⟩, ⟨49, .guard⟩], some (49, false)⟩) rfl (fun K hK => ?_) AllReadyH.nil
 go_simp
 refine (implNewContentStore e _).mono ?_
 rintro e wn12 ⟨U_g6, rfl, ho, hb⟩
 obtain ⟨x_g6, n_g6, c_g6, rfl, ho⟩ := kCn_shape ho
 have R_g6 := Lib.hid ho.at; clear ho
 replace R_g1 := Lib.hid (R_g1.out.on hb)
 replace R_g2 := Lib.hid (R_g2.out.on hb)
 replace R_g3 := Lib.hid (R_g3.out.on hb)
 replace R_g4 := Lib.hid (R_g4.out.on hb)
 replace R_g5 := Lib.hid (R_g5.out.on hb)
 replace BB := Lib.hid (BB.out.trans (hb.mono BB.out.size))
 clear hb
 (try go_wp2_with fail)
 clear hHeld
 refine hK.out _ _ ?_ (fun hHeld => ?_)
 ·
  (try dsimp only); exact ⟨kc K0_c.out BB.out, kc K1_c.out BB.out, kc K0_x.out BB.out, kc K1_x.out BB.out, kc K2_x.out BB.out, kc K3_x.out BB.out, kc K4_x.out BB.out, kc K0_d.out BB.out, kc K1_d.out BB.out, kc K0_k.out BB.out, kc K1_k.out BB.out, kc K0_n.out BB.out, kc K0_y.out BB.out, kc K1_y.out BB.out, kc K2_y.out BB.out, kc K3_y.out BB.out, kc K4_y.out BB.out, kc K0_z.out BB.out, kc K1_z.out BB.out, kc K2_z.out BB.out, kc K3_z.out BB.out, kc K4_z.out BB.out, kc K0_s.out BB.out, kc K1_s.out BB.out, kc K0_a.out BB.out, kc K1_a.out BB.out, kc K0_b.out BB.out, kc K1_b.out BB.out⟩
 clear hK K
 (try simp only [Act.put, Row.pB0, Row.pB1, Row.pB2])
 refine wpAnyH_ready (rs := [53]) (by kernel_rfl) (by simp) ?_
 refine AllReadyH.cons (o := ⟨some 118, .call ⟨.value (.func 22), #[.tmp 117], #[3]⟩, 26, "laws.go:740", #[⟨52, .data⟩, ⟨51, .chain⟩, ⟨49, .guard⟩], some (49, false)⟩) rfl (fun K hK => ?_) AllReadyH.nil
 go_simp
 refine (specNewContentStore e _).mono ?_
 rintro e wn13 ⟨U_g7, rfl, ho, hb⟩
 obtain ⟨x_g7, n_g7, c_g7, rfl, ho⟩ := kCn_shape ho
 have R_g7 := Lib.hid ho.at; clear ho
 replace R_g1 := Lib.hid (R_g1.out.on hb)
 replace R_g2 := Lib.hid (R_g2.out.on hb)
 replace R_g3 := Lib.hid (R_g3.out.on hb)
 replace R_g4 := Lib.hid (R_g4.out.on hb)
 replace R_g5 := Lib.hid (R_g5.out.on hb)
 replace R_g6 := Lib.hid (R_g6.out.on hb)
 replace BB := Lib.hid (BB.out.trans (hb.mono BB.out.size))
 clear hb
 (try go_wp2_with fail)
 clear hHeld
 refine hK.out _ _ ?_ (fun hHeld => ?_)
 ·
  (try dsimp only); exact ⟨kc K0_c.out BB.out, kc K1_c.out BB.out, kc K0_x.out BB.out, kc K1_x.out BB.out, kc K2_x.out BB.out, kc K3_x.out BB.out, kc K4_x.out BB.out, kc K0_d.out BB.out, kc K1_d.out BB.out, kc K0_k.out BB.out, kc K1_k.out BB.out, kc K0_n.out BB.out, kc K0_y.out BB.out, kc K1_y.out BB.out, kc K2_y.out BB.out, kc K3_y.out BB.out, kc K4_y.out BB.out, kc K0_z.out BB.out, kc K1_z.out BB.out, kc K2_z.out BB.out, kc K3_z.out BB.out, kc K4_z.out BB.out, kc K0_s.out BB.out, kc K1_s.out BB.out, kc K0_a.out BB.out, kc K1_a.out BB.out, kc K0_b.out BB.out, kc K1_b.out BB.out⟩
 clear hK K
 (try simp only [Act.put, Row.pB0, Row.pB1, Row.pB2])
 refine wpAnyH_ready (rs := [54]) (by kernel_rfl) (by simp) ?_
 refine AllReadyH.cons (o := ⟨some 119, .call ⟨.value (.func 13), #[.tmp 116, .tmp 118], #[26, 26]⟩, 4, "laws.go:740", #[⟨51, .data⟩, ⟨53, .data⟩, ⟨53, .chain⟩, ⟨49, .guard⟩], some (49, false)⟩) rfl (fun K hK => ?_) AllReadyH.nil
 go_simp
 refine (sameCV R_g6.out R_g7.out s_e.out).mono ?_
 rintro e wn14 ⟨rfl, hb⟩
 replace R_g1 := Lib.hid (R_g1.out.on hb)
 replace R_g2 := Lib.hid (R_g2.out.on hb)
 replace R_g3 := Lib.hid (R_g3.out.on hb)
 replace R_g4 := Lib.hid (R_g4.out.on hb)
 replace R_g5 := Lib.hid (R_g5.out.on hb)
 replace R_g6 := Lib.hid (R_g6.out.on hb)
 replace R_g7 := Lib.hid (R_g7.out.on hb)
 replace BB := Lib.hid (BB.out.trans (hb.mono BB.out.size))
 clear hb
 (try go_wp2_with fail)
 clear hHeld
 refine hK.out _ _ ?_ (fun hHeld => ?_)
 ·
  (try dsimp only); exact ⟨kc K0_c.out BB.out, kc K1_c.out BB.out, kc K0_x.out BB.out, kc K1_x.out BB.out, kc K2_x.out BB.out, kc K3_x.out BB.out, kc K4_x.out BB.out, kc K0_d.out BB.out, kc K1_d.out BB.out, kc K0_k.out BB.out, kc K1_k.out BB.out, kc K0_n.out BB.out, kc K0_y.out BB.out, kc K1_y.out BB.out, kc K2_y.out BB.out, kc K3_y.out BB.out, kc K4_y.out BB.out, kc K0_z.out BB.out, kc K1_z.out BB.out, kc K2_z.out BB.out, kc K3_z.out BB.out, kc K4_z.out BB.out, kc K0_s.out BB.out, kc K1_s.out BB.out, kc K0_a.out BB.out, kc K1_a.out BB.out, kc K0_b.out BB.out, kc K1_b.out BB.out⟩
 clear hK K
 (try simp only [Act.put, Row.pB0, Row.pB1, Row.pB2])
 refine wpAnyH_take (i := 55) (oi := ⟨some 120, .unOp UnOp.not 4 (.tmp 119), 4, "laws.go:740", #[⟨54, .data⟩, ⟨49, .guard⟩], some (49, false)⟩) (v := ?_) rfl (by kernel_rfl) (by kernel_rfl) (by kernel_rfl) (fun _ _ _ h => h) (Or.inl ⟨by rfl, ?_⟩) (by assumption) ?_
 rotate_left
 ·
  intro w' hSw; (try dsimp only at hSw); first | (go_simp; done) | (go_simp; with_reducible rfl)
 (try simp only [Act.put, Row.pB0, Row.pB1, Row.pB2])
 refine wpAnyH_take (i := 56) (oi := ⟨some 121, .pick (.tmp 114) (.const (Value.bool true)) (.tmp 120), 4, "laws.go:740", #[⟨49, .data⟩, ⟨55, .data⟩], none⟩) (v := ?_) rfl (by kernel_rfl) (by kernel_rfl) (by kernel_rfl) (fun _ _ _ h => h) (Or.inl ⟨by rfl, ?_⟩) (by assumption) ?_
 rotate_left
 ·
  intro w' hSw; (try dsimp only at hSw); first | (go_simp; done) | (go_simp; with_reducible rfl)
 (try simp only [Act.put, Row.pB0, Row.pB1, Row.pB2])
 refine wpAnyH_take (i := 57) (oi := ⟨some 122, .move (.tmp 121), 4, "laws.go:740", #[⟨56, .data⟩, ⟨54, .chain⟩], none⟩) (v := ?_) rfl (by kernel_rfl) (by kernel_rfl) (by kernel_rfl) (fun _ _ _ h => h) (Or.inl ⟨by rfl, ?_⟩) (by assumption) ?_
 rotate_left
 ·
  intro w' hSw; (try dsimp only at hSw); first | (go_simp; done) | (go_simp; with_reducible rfl)
 (try simp only [Act.put, Row.pB0, Row.pB1, Row.pB2])
 refine wpAnyH_take (i := 58) (oi := ⟨some 123, .load 26 (.tmp 3), 26, "laws.go:740", #[⟨57, .guard⟩], some (57, false)⟩) (v := ?_) rfl (by kernel_rfl) (by kernel_rfl) (by kernel_rfl) (fun _ _ _ h => h) (Or.inl ⟨by rfl, ?_⟩) (by assumption) ?_
 rotate_left
 ·
  intro w' hSw; (try dsimp only at hSw); first | (go_simp; done) | (go_simp; with_reducible rfl)
 (try simp only [Act.put, Row.pB0, Row.pB1, Row.pB2])
 refine wpAnyH_take (i := 60) (oi := ⟨some 125, .load 26 (.tmp 3), 26, "laws.go:740", #[⟨57, .guard⟩], some (57, false)⟩) (v := ?_) rfl (by kernel_rfl) (by kernel_rfl) (by kernel_rfl) (fun _ _ _ h => h) (Or.inl ⟨by rfl, ?_⟩) (by assumption) ?_
 rotate_left
 ·
  intro w' hSw; (try dsimp only at hSw); first | (go_simp; done) | (go_simp; with_reducible rfl)
 (try simp only [Act.put, Row.pB0, Row.pB1, Row.pB2])
 refine wpAnyH_ready (rs := [59]) (by kernel_rfl) (by simp) ?_
 refine AllReadyH.cons (o := ⟨some 124, .call ⟨.value (.func 24), #[.tmp 123], #[26]⟩, 50, "laws.go:740", #[⟨58, .data⟩, ⟨57, .chain⟩, ⟨57, .guard⟩], some (57, false)⟩) rfl (fun K hK => ?_) AllReadyH.nil
 go_simp
 refine (iNmV (H_c.out.on BB.out) s_c.out).mono ?_
 rintro e wn15 ⟨U_g8, rfl, ho, hb⟩
 obtain ⟨x_g8, n_g8, c_g8, rfl, ho⟩ := kLNn_shape ho
 have R_g8 := Lib.hid ho.at; clear ho
 replace R_g1 := Lib.hid (R_g1.out.on hb)
 replace R_g2 := Lib.hid (R_g2.out.on hb)
 replace R_g3 := Lib.hid (R_g3.out.on hb)
 replace R_g4 := Lib.hid (R_g4.out.on hb)
 replace R_g5 := Lib.hid (R_g5.out.on hb)
 replace R_g6 := Lib.hid (R_g6.out.on hb)
 replace R_g7 := Lib.hid (R_g7.out.on hb)
 replace BB := Lib.hid (BB.out.trans (hb.mono BB.out.size))
 clear hb
 (try go_wp2_with fail)
 clear hHeld
 refine hK.out _ _ ?_ (fun hHeld => ?_)
 ·
  (try dsimp only); exact ⟨kc K0_c.out BB.out, kc K1_c.out BB.out, kc K0_x.out BB.out, kc K1_x.out BB.out, kc K2_x.out BB.out, kc K3_x.out BB.out, kc K4_x.out BB.out, kc K0_d.out BB.out, kc K1_d.out BB.out, kc K0_k.out BB.out, kc K1_k.out BB.out, kc K0_n.out BB.out, kc K0_y.out BB.out, kc K1_y.out BB.out, kc K2_y.out BB.out, kc K3_y.out BB.out, kc K4_y.out BB.out, kc K0_z.out BB.out, kc K1_z.out BB.out, kc K2_z.out BB.out, kc K3_z.out BB.out, kc K4_z.out BB.out, kc K0_s.out BB.out, kc K1_s.out BB.out, kc K0_a.out BB.out, kc K1_a.out BB.out, kc K0_b.out BB.out, kc K1_b.out BB.out⟩
 clear hK K
 (try simp only [Act.put, Row.pB0, Row.pB1, Row.pB2])
 refine wpAnyH_ready (rs := [61]) (by kernel_rfl) (by simp) ?_
 refine AllReadyH.cons (o := ⟨some 126, .call ⟨.value (.func 25), #[.tmp 125], #[26]⟩, 50, "laws.go:740", #[⟨60, .data⟩, ⟨59, .chain⟩, ⟨57, .guard⟩], some (57, false)⟩) rfl (fun K hK => ?_) AllReadyH.nil
 go_simp
 refine (sNmV (H_c.out.on BB.out) s_c.out).mono ?_
 rintro e wn16 ⟨U_g9, rfl, ho, hb⟩
 obtain ⟨x_g9, n_g9, c_g9, rfl, ho⟩ := kLNn_shape ho
 have R_g9 := Lib.hid ho.at; clear ho
 replace R_g1 := Lib.hid (R_g1.out.on hb)
 replace R_g2 := Lib.hid (R_g2.out.on hb)
 replace R_g3 := Lib.hid (R_g3.out.on hb)
 replace R_g4 := Lib.hid (R_g4.out.on hb)
 replace R_g5 := Lib.hid (R_g5.out.on hb)
 replace R_g6 := Lib.hid (R_g6.out.on hb)
 replace R_g7 := Lib.hid (R_g7.out.on hb)
 replace R_g8 := Lib.hid (R_g8.out.on hb)
 replace BB := Lib.hid (BB.out.trans (hb.mono BB.out.size))
 clear hb
 (try go_wp2_with fail)
 clear hHeld
 refine hK.out _ _ ?_ (fun hHeld => ?_)
 ·
  (try dsimp only); exact ⟨kc K0_c.out BB.out, kc K1_c.out BB.out, kc K0_x.out BB.out, kc K1_x.out BB.out, kc K2_x.out BB.out, kc K3_x.out BB.out, kc K4_x.out BB.out, kc K0_d.out BB.out, kc K1_d.out BB.out, kc K0_k.out BB.out, kc K1_k.out BB.out, kc K0_n.out BB.out, kc K0_y.out BB.out, kc K1_y.out BB.out, kc K2_y.out BB.out, kc K3_y.out BB.out, kc K4_y.out BB.out, kc K0_z.out BB.out, kc K1_z.out BB.out, kc K2_z.out BB.out, kc K3_z.out BB.out, kc K4_z.out BB.out, kc K0_s.out BB.out, kc K1_s.out BB.out, kc K0_a.out BB.out, kc K1_a.out BB.out, kc K0_b.out BB.out, kc K1_b.out BB.out⟩
 clear hK K
 (try simp only [Act.put, Row.pB0, Row.pB1, Row.pB2])
 refine wpAnyH_ready (rs := [62]) (by kernel_rfl) (by simp) ?_
 refine AllReadyH.cons (o := ⟨some 127, .call ⟨.value (.func 23), #[.tmp 124, .tmp 126], #[50, 50]⟩, 4, "laws.go:740", #[⟨59, .data⟩, ⟨61, .data⟩, ⟨61, .chain⟩, ⟨57, .guard⟩], some (57, false)⟩) rfl (fun K hK => ?_) AllReadyH.nil
 go_simp
 refine (sameNsV R_g8.out R_g9.out s_c.out).mono ?_
 rintro e wn17 ⟨rfl, hb⟩
 replace R_g1 := Lib.hid (R_g1.out.on hb)
 replace R_g2 := Lib.hid (R_g2.out.on hb)
 replace R_g3 := Lib.hid (R_g3.out.on hb)
 replace R_g4 := Lib.hid (R_g4.out.on hb)
 replace R_g5 := Lib.hid (R_g5.out.on hb)
 replace R_g6 := Lib.hid (R_g6.out.on hb)
 replace R_g7 := Lib.hid (R_g7.out.on hb)
 replace R_g8 := Lib.hid (R_g8.out.on hb)
 replace R_g9 := Lib.hid (R_g9.out.on hb)
 replace BB := Lib.hid (BB.out.trans (hb.mono BB.out.size))
 clear hb
 (try go_wp2_with fail)
 clear hHeld
 refine hK.out _ _ ?_ (fun hHeld => ?_)
 ·
  (try dsimp only); exact ⟨kc K0_c.out BB.out, kc K1_c.out BB.out, kc K0_x.out BB.out, kc K1_x.out BB.out, kc K2_x.out BB.out, kc K3_x.out BB.out, kc K4_x.out BB.out, kc K0_d.out BB.out, kc K1_d.out BB.out, kc K0_k.out BB.out, kc K1_k.out BB.out, kc K0_n.out BB.out, kc K0_y.out BB.out, kc K1_y.out BB.out, kc K2_y.out BB.out, kc K3_y.out BB.out, kc K4_y.out BB.out, kc K0_z.out BB.out, kc K1_z.out BB.out, kc K2_z.out BB.out, kc K3_z.out BB.out, kc K4_z.out BB.out, kc K0_s.out BB.out, kc K1_s.out BB.out, kc K0_a.out BB.out, kc K1_a.out BB.out, kc K0_b.out BB.out, kc K1_b.out BB.out⟩
 clear hK K
 (try simp only [Act.put, Row.pB0, Row.pB1, Row.pB2])
 refine wpAnyH_take (i := 63) (oi := ⟨some 128, .unOp UnOp.not 4 (.tmp 127), 4, "laws.go:740", #[⟨62, .data⟩, ⟨57, .guard⟩], some (57, false)⟩) (v := ?_) rfl (by kernel_rfl) (by kernel_rfl) (by kernel_rfl) (fun _ _ _ h => h) (Or.inl ⟨by rfl, ?_⟩) (by assumption) ?_
 rotate_left
 ·
  intro w' hSw; (try dsimp only at hSw); first | (go_simp; done) | (go_simp; with_reducible rfl)
 (try simp only [Act.put, Row.pB0, Row.pB1, Row.pB2])
 refine wpAnyH_take (i := 64) (oi := ⟨some 129, .pick (.tmp 122) (.const (Value.bool true)) (.tmp 128), 4, "laws.go:740", #[⟨57, .data⟩, ⟨63, .data⟩], none⟩) (v := ?_) rfl (by kernel_rfl) (by kernel_rfl) (by kernel_rfl) (fun _ _ _ h => h) (Or.inl ⟨by rfl, ?_⟩) (by assumption) ?_
 rotate_left
 ·
  intro w' hSw; (try dsimp only at hSw); first | (go_simp; done) | (go_simp; with_reducible rfl)
 (try simp only [Act.put, Row.pB0, Row.pB1, Row.pB2])
 refine wpAnyH_take (i := 65) (oi := ⟨some 130, .move (.tmp 129), 4, "laws.go:740", #[⟨64, .data⟩, ⟨62, .chain⟩], none⟩) (v := ?_) rfl (by kernel_rfl) (by kernel_rfl) (by kernel_rfl) (fun _ _ _ h => h) (Or.inl ⟨by rfl, ?_⟩) (by assumption) ?_
 rotate_left
 ·
  intro w' hSw; (try dsimp only at hSw); first | (go_simp; done) | (go_simp; with_reducible rfl)
 (try simp only [Act.put, Row.pB0, Row.pB1, Row.pB2])
 refine wpAnyH_take (i := 66) (oi := ⟨some 131, .load 26 (.tmp 3), 26, "laws.go:740", #[⟨65, .guard⟩], some (65, false)⟩) (v := ?_) rfl (by kernel_rfl) (by kernel_rfl) (by kernel_rfl) (fun _ _ _ h => h) (Or.inl ⟨by rfl, ?_⟩) (by assumption) ?_
 rotate_left
 ·
  intro w' hSw; (try dsimp only at hSw); first | (go_simp; done) | (go_simp; with_reducible rfl)
 (try simp only [Act.put, Row.pB0, Row.pB1, Row.pB2])
 refine wpAnyH_take (i := 68) (oi := ⟨some 133, .load 26 (.tmp 3), 26, "laws.go:740", #[⟨65, .guard⟩], some (65, false)⟩) (v := ?_) rfl (by kernel_rfl) (by kernel_rfl) (by kernel_rfl) (fun _ _ _ h => h) (Or.inl ⟨by rfl, ?_⟩) (by assumption) ?_
 rotate_left
 ·
  intro w' hSw; (try dsimp only at hSw); first | (go_simp; done) | (go_simp; with_reducible rfl)
 (try simp only [Act.put, Row.pB0, Row.pB1, Row.pB2])
 refine wpAnyH_ready (rs := [67]) (by kernel_rfl) (by simp) ?_
 refine AllReadyH.cons (o := ⟨some 132, .call ⟨.value (.func 26), #[.tmp 131], #[26]⟩, 4, "laws.go:740", #[⟨66, .data⟩, ⟨65, .chain⟩, ⟨65, .guard⟩], some (65, false)⟩) rfl (fun K hK => ?_) AllReadyH.nil
 go_simp
 refine (iVcV q2 HVC.out (H_c.out.on BB.out) s_c.out).mono ?_
 rintro e wn18 ⟨rfl, hb⟩
 replace R_g1 := Lib.hid (R_g1.out.on hb)
 replace R_g2 := Lib.hid (R_g2.out.on hb)
 replace R_g3 := Lib.hid (R_g3.out.on hb)
 replace R_g4 := Lib.hid (R_g4.out.on hb)
 replace R_g5 := Lib.hid (R_g5.out.on hb)
 replace R_g6 := Lib.hid (R_g6.out.on hb)
 replace R_g7 := Lib.hid (R_g7.out.on hb)
 replace R_g8 := Lib.hid (R_g8.out.on hb)
 replace R_g9 := Lib.hid (R_g9.out.on hb)
 replace BB := Lib.hid (BB.out.trans (hb.mono BB.out.size))
 clear hb
 (try go_wp2_with fail)
 clear hHeld
 refine hK.out _ _ ?_ (fun hHeld => ?_)
 ·
  (try dsimp only); exact ⟨kc K0_c.out BB.out, kc K1_c.out BB.out, kc K0_x.out BB.out, kc K1_x.out BB.out, kc K2_x.out BB.out, kc K3_x.out BB.out, kc K4_x.out BB.out, kc K0_d.out BB.out, kc K1_d.out BB.out, kc K0_k.out BB.out, kc K1_k.out BB.out, kc K0_n.out BB.out, kc K0_y.out BB.out, kc K1_y.out BB.out, kc K2_y.out BB.out, kc K3_y.out BB.out, kc K4_y.out BB.out, kc K0_z.out BB.out, kc K1_z.out BB.out, kc K2_z.out BB.out, kc K3_z.out BB.out, kc K4_z.out BB.out, kc K0_s.out BB.out, kc K1_s.out BB.out, kc K0_a.out BB.out, kc K1_a.out BB.out, kc K0_b.out BB.out, kc K1_b.out BB.out⟩
 clear hK K
 (try simp only [Act.put, Row.pB0, Row.pB1, Row.pB2])
 refine wpAnyH_ready (rs := [69]) (by kernel_rfl) (by simp) ?_
 refine AllReadyH.cons (o := ⟨some 134, .call ⟨.value (.func 27), #[.tmp 133], #[26]⟩, 4, "laws.go:740", #[⟨68, .data⟩, ⟨67, .chain⟩, ⟨65, .guard⟩], some (65, false)⟩) rfl (fun K hK => ?_) AllReadyH.nil
 go_simp
 refine (sVcV q2 HVC.out (H_c.out.on BB.out) s_c.out).mono ?_
 rintro e wn19 ⟨rfl, hb⟩
 replace R_g1 := Lib.hid (R_g1.out.on hb)
 replace R_g2 := Lib.hid (R_g2.out.on hb)
 replace R_g3 := Lib.hid (R_g3.out.on hb)
 replace R_g4 := Lib.hid (R_g4.out.on hb)
 replace R_g5 := Lib.hid (R_g5.out.on hb)
 replace R_g6 := Lib.hid (R_g6.out.on hb)
 replace R_g7 := Lib.hid (R_g7.out.on hb)
 replace R_g8 := Lib.hid (R_g8.out.on hb)
 replace R_g9 := Lib.hid (R_g9.out.on hb)
 replace BB := Lib.hid (BB.out.trans (hb.mono BB.out.size))
 clear hb
 (try go_wp2_with fail)
 clear hHeld
 refine hK.out _ _ ?_ (fun hHeld => ?_)
 ·
  (try dsimp only); exact ⟨kc K0_c.out BB.out, kc K1_c.out BB.out, kc K0_x.out BB.out, kc K1_x.out BB.out, kc K2_x.out BB.out, kc K3_x.out BB.out, kc K4_x.out BB.out, kc K0_d.out BB.out, kc K1_d.out BB.out, kc K0_k.out BB.out, kc K1_k.out BB.out, kc K0_n.out BB.out, kc K0_y.out BB.out, kc K1_y.out BB.out, kc K2_y.out BB.out, kc K3_y.out BB.out, kc K4_y.out BB.out, kc K0_z.out BB.out, kc K1_z.out BB.out, kc K2_z.out BB.out, kc K3_z.out BB.out, kc K4_z.out BB.out, kc K0_s.out BB.out, kc K1_s.out BB.out, kc K0_a.out BB.out, kc K1_a.out BB.out, kc K0_b.out BB.out, kc K1_b.out BB.out⟩
 clear hK K
 (try simp only [Act.put, Row.pB0, Row.pB1, Row.pB2])
 refine wpAnyH_take (i := 70) (oi := ⟨some 135, .binOp BinOp.neq 4 (.tmp 132) (.tmp 134) 4, 4, "laws.go:740", #[⟨67, .data⟩, ⟨69, .data⟩, ⟨65, .guard⟩], some (65, false)⟩) (v := ?_) rfl (by kernel_rfl) (by kernel_rfl) (by kernel_rfl) (fun _ _ _ h => h) (Or.inl ⟨by rfl, ?_⟩) (by assumption) ?_
 rotate_left
 ·
  intro w' hSw; (try dsimp only at hSw); first | (go_simp; done) | (go_simp; with_reducible rfl)
 (try simp only [Act.put, Row.pB0, Row.pB1, Row.pB2])
 refine wpAnyH_take (i := 71) (oi := ⟨some 136, .pick (.tmp 130) (.const (Value.bool true)) (.tmp 135), 4, "laws.go:740", #[⟨65, .data⟩, ⟨70, .data⟩], none⟩) (v := ?_) rfl (by kernel_rfl) (by kernel_rfl) (by kernel_rfl) (fun _ _ _ h => h) (Or.inl ⟨by rfl, ?_⟩) (by assumption) ?_
 rotate_left
 ·
  intro w' hSw; (try dsimp only at hSw); first | (go_simp; done) | (go_simp; with_reducible rfl)
 (try simp only [Act.put, Row.pB0, Row.pB1, Row.pB2])
 refine wpAnyH_done (by kernel_rfl) ?_ _
 exact NoPanic.normal (HQ.out _ _ _ _ _ _ _ _ _ _ _ _ _ _ _ _ _ _ _ _ _ _ _ _ _ _ _ _ _ _ _ _ _ _ _ _ _ _ _ _ _ _ _ _ _ _ _ _ _ _ _ _ _ _ _ _ _ _ _ _ _ _ _ _ _ _ _ _ _ _ _  _  BB.out)
end Go.Proofs.YtfglcmanmfenpaaGreat.Row
