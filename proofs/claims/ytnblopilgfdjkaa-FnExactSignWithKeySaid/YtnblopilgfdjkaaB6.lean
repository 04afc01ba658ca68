/- Contracts and mathematics, joined: RingS, Open. No conditions but those that each states. -/
import Derived.Test.YtnblopilgfdjkaaB5
import Derived.Test.YtnblopilgfdjkaaB1
import Derived.SizedLaws
import Derived.ChangeSlices
import Derived.Lib.SmallJoins
/- Regions of the exact law on SignWithKey: arguments copied, the call, the result laid in a variable, whatever order is drawn. No conditions. -/
namespace Go.Proofs.Ytnblopilgfdjkaa.Row.Ring
open Go.ChangeShapes Go.WideShapes Go.ChangeAt Go.RowKit Go.Instr
set_option linter.unusedVariables false
set_option maxRecDepth 100000

theorem size_five {g : Nat} {w : World} {a b c f s : Value} : ((((((w).setCell ⟨g, 0, none⟩ (a)).setCell ⟨g, 1, none⟩ (b)).setCell ⟨g, 2, none⟩ (c)).setCell ⟨g, 3, none⟩ (f)).setCell ⟨g, 4, none⟩ (s)).heap.size = w.heap.size := by simp [World.setCell]
/-- A result laid in a variable: all that was there is kept. -/
theorem five_facts {w wx : World} {gD ma da mb db mc dc_ : Nat} {ya yb yc : Option Addr} {x : Dt} (hgd : w.heap.size ≤ gD) (hxd : Ret.Blk wx gD (dc (.slice none 0 0) (.slice none 0 0) (.slice none 0 0) 0 0) 40)
    (hin : kD.In w.heap.size wx.heap.size wx (.agg #[.slice ya ma da, .slice yb mb db, .slice yc mc dc_, .int .i64 x.2.2.2.1, .int .i64 x.2.2.2.2]) x) (hb : Below w.heap.size w wx) :
    Below w.heap.size w ((((((wx).setCell ⟨gD, 0, none⟩ (.slice ya ma da)).setCell ⟨gD, 1, none⟩ (.slice yb mb db)).setCell ⟨gD, 2, none⟩ (.slice yc mc dc_)).setCell ⟨gD, 3, none⟩ (.int .i64 x.2.2.2.1)).setCell ⟨gD, 4, none⟩ (.int .i64 x.2.2.2.2)) ∧ kD.In w.heap.size ((((((wx).setCell ⟨gD, 0, none⟩ (.slice ya ma da)).setCell ⟨gD, 1, none⟩ (.slice yb mb db)).setCell ⟨gD, 2, none⟩ (.slice yc mc dc_)).setCell ⟨gD, 3, none⟩ (.int .i64 x.2.2.2.1)).setCell ⟨gD, 4, none⟩ (.int .i64 x.2.2.2.2)).heap.size ((((((wx).setCell ⟨gD, 0, none⟩ (.slice ya ma da)).setCell ⟨gD, 1, none⟩ (.slice yb mb db)).setCell ⟨gD, 2, none⟩ (.slice yc mc dc_)).setCell ⟨gD, 3, none⟩ (.int .i64 x.2.2.2.1)).setCell ⟨gD, 4, none⟩ (.int .i64 x.2.2.2.2)) (.agg #[.slice ya ma da, .slice yb mb db, .slice yc mc dc_, .int .i64 x.2.2.2.1, .int .i64 x.2.2.2.2]) x ∧ Ret.Blk ((((((wx).setCell ⟨gD, 0, none⟩ (.slice ya ma da)).setCell ⟨gD, 1, none⟩ (.slice yb mb db)).setCell ⟨gD, 2, none⟩ (.slice yc mc dc_)).setCell ⟨gD, 3, none⟩ (.int .i64 x.2.2.2.1)).setCell ⟨gD, 4, none⟩ (.int .i64 x.2.2.2.2)) gD #[.slice ya ma da, .slice yb mb db, .slice yc mc dc_, .int .i64 x.2.2.2.1, .int .i64 x.2.2.2.2] 40 ∧ gD < ((((((wx).setCell ⟨gD, 0, none⟩ (.slice ya ma da)).setCell ⟨gD, 1, none⟩ (.slice yb mb db)).setCell ⟨gD, 2, none⟩ (.slice yc mc dc_)).setCell ⟨gD, 3, none⟩ (.int .i64 x.2.2.2.1)).setCell ⟨gD, 4, none⟩ (.int .i64 x.2.2.2.2)).heap.size := by
  refine ⟨below_five hb hgd, ?_, blk_five hxd, by rw [size_five]; exact hxd.lt⟩
  obtain ⟨a, b, c, e, ho, h1, h2, h3⟩ := kD_in hin
  have e2 := congrArg (fun v => match v with | Value.agg cs => cs.toList | _ => []) e
  simp only [List.cons.injEq, and_true] at e2
  obtain ⟨rfl, rfl, rfl⟩ := e2
  refine kD_mk (ho.five hxd) ?_
  rw [size_five]
  exact ⟨h1, h2, h3⟩

set_option maxRecDepth 100000 in
set_option maxHeartbeats 4000000 in
theorem specSW0 {Q : Exit → Act → World → Prop} {v1 v2 v5 v8 v9 v10 v11 v12 v13 v14 v15 v16 v17 v18 v19 v20 v21 v22 v23 v24 v25 v26 v27 v28 v29 v30 v31 v32 v33 v34 v35 v36 v37 v38 v39 v40 v41 v42 v43 v44 v45 v46 v47 v48 v49 v50 v51 v52 v53 v54 v55 v56 v57 v58 v59 v60 v61 v62 v63 v64 v65 v66 v67 v68 v69 v70 v71 v72 v73 v74 v75 v76 v77 v78 v79 v80 v81 v82 v83 v84 v85 v86 v87 v88 v89 v90 v91 v92 v93 v94 v95 v96 v97 v98 v99 v100 v101 v102 v103 v104 v105 v106 v107 v108 v109 v110 v111 v112 v113 v114 v115 v116 v117 v118 v119 v120 v121 v122 v123 v124 v125 v126 v127 v128 v129 v130 v131 v132 v133 v134 v135 v136 v137 v138 v139 v140 v141 v142 v143 v144 v145 v146 v147 v148 v149 v150 v151 v152 v153 v154 v155 v156 v157 v158 v159 v160 v161 v162 v163 v164 v165 v166 v167 : Value} {w : World} {p q nl cl nk ck nn cn nb cb : Nat} {xl xk xn xb : Option Addr} {l0 : Kt} {l1 l2 : List ByteArray} {l3 : List Int} {a4 : Int} (H0 : Hid (kK.At w (.slice xl nl cl) l0)) (H1 : Hid (kN.At w (.agg #[.slice xk nk ck]) l1)) (H2 : Hid (kN.At w (.agg #[.slice xn nn cn]) l2)) (H3 : Hid (kB.At w (.slice xb nb cb) l3)) (N0 : Hid (∀ t ∈ l0, t.1.length ≤ 9223372036854775807 ∧ (∀ x ∈ t.1, x.size ≤ maxLen) ∧ (Lit.int .i64 t.2).wf = true)) (N3 : Hid (∀ x ∈ l3, (Lit.int .u8 x).wf = true)) (Z0 : bulkT l0 ≤ 1048576) (Z1 : bulk l1 ≤ 1048576) (Z2 : bulk l2 ≤ 1048576) (Z3 : l3.length ≤ 1048576) (KK : Hid (w.cell? ⟨p, 0, none⟩ = some (.slice xk nk ck))) (KN : Hid (w.cell? ⟨q, 0, none⟩ = some (.slice xn nn cn)))
    (hQ : ∀ (u43 u44 u45 u46 u47 u48 u49 u50 u51 u52 u53 u54 u55 : Value) (gD ma da mb db mc dc_ : Nat) (ya yb yc : Option Addr)  (wx : World), w.heap.size ≤ gD → Ret.Blk wx gD (dc (.slice none 0 0) (.slice none 0 0) (.slice none 0 0) 0 0) 40 → kD.In w.heap.size wx.heap.size wx (.agg #[.slice ya ma da, .slice yb mb db, .slice yc mc dc_, .int .i64 (sgK l0 l1 l2 l3 a4).2.2.2.1, .int .i64 (sgK l0 l1 l2 l3 a4).2.2.2.2]) (sgK l0 l1 l2 l3 a4) → Below w.heap.size w wx → Q .normal ⟨#[.slice xl nl cl, v1, v2, .slice xb nb cb, .int .i64 a4, v5, .pointer (some ⟨p, 0, none⟩), .pointer (some ⟨q, 0, none⟩), v8, v9, v10, v11, .pointer (some ⟨gD, 0, none⟩), .bool (sgOk l0 l1 l2 l3 a4), v14, v15, v16, v17, v18, v19, v20, v21, v22, v23, v24, v25, v26, v27, v28, v29, v30, v31, v32, v33, v34, v35, v36, v37, v38, v39, v40, v41, v42, u43, u44, u45, u46, u47, u48, u49, u50, u51, u52, u53, u54, u55, v56, v57, v58, v59, v60, v61, v62, v63, v64, v65, v66, v67, v68, v69, v70, v71, v72, v73, v74, v75, v76, v77, v78, v79, v80, v81, v82, v83, v84, v85, v86, v87, v88, v89, v90, v91, v92, v93, v94, v95, v96, v97, v98, v99, v100, v101, v102, v103, v104, v105, v106, v107, v108, v109, v110, v111, v112, v113, v114, v115, v116, v117, v118, v119, v120, v121, v122, v123, v124, v125, v126, v127, v128, v129, v130, v131, v132, v133, v134, v135, v136, v137, v138, v139, v140, v141, v142, v143, v144, v145, v146, v147, v148, v149, v150, v151, v152, v153, v154, v155, v156, v157, v158, v159, v160, v161, v162, v163, v164, v165, v166, v167], []⟩ ((((((wx).setCell ⟨gD, 0, none⟩ (.slice ya ma da)).setCell ⟨gD, 1, none⟩ (.slice yb mb db)).setCell ⟨gD, 2, none⟩ (.slice yc mc dc_)).setCell ⟨gD, 3, none⟩ (.int .i64 (sgK l0 l1 l2 l3 a4).2.2.2.1)).setCell ⟨gD, 4, none⟩ (.int .i64 (sgK l0 l1 l2 l3 a4).2.2.2.2))) :
    (Code.region 13 #[{ dst := some 44, op := Op.move (Operand.tmp 0), type := 22, pos := "exact.go:6213", after := #[], guard := none },
      { dst := some 45, op := Op.call { callee := Callee.value (Operand.func 12), args := #[Operand.tmp 44], argTypes := #[22] }, type := 25, pos := "exact.go:6213", after := #[{ on := 0, ground := Ground.data }], guard := none },
      { dst := some 46, op := Op.load 31 (Operand.tmp 6), type := 31, pos := "exact.go:6213", after := #[], guard := none },
      { dst := some 47, op := Op.call { callee := Callee.value (Operand.func 17), args := #[Operand.tmp 46], argTypes := #[31] }, type := 34, pos := "exact.go:6213", after := #[{ on := 2, ground := Ground.data }, { on := 1, ground := Ground.chain }], guard := none },
      { dst := some 48, op := Op.load 31 (Operand.tmp 7), type := 31, pos := "exact.go:6213", after := #[], guard := none },
      { dst := some 49, op := Op.call { callee := Callee.value (Operand.func 17), args := #[Operand.tmp 48], argTypes := #[31] }, type := 34, pos := "exact.go:6213", after := #[{ on := 4, ground := Ground.data }, { on := 3, ground := Ground.chain }], guard := none },
      { dst := some 50, op := Op.move (Operand.tmp 3), type := 38, pos := "exact.go:6213", after := #[], guard := none },
      { dst := some 51, op := Op.call { callee := Callee.value (Operand.func 21), args := #[Operand.tmp 50], argTypes := #[38] }, type := 38, pos := "exact.go:6213", after := #[{ on := 6, ground := Ground.data }, { on := 5, ground := Ground.chain }], guard := none },
      { dst := some 52, op := Op.move (Operand.tmp 4), type := 3, pos := "exact.go:6213", after := #[], guard := none },
      { dst := some 53, op := Op.call { callee := Callee.value (Operand.func 20), args := #[Operand.tmp 45, Operand.tmp 47, Operand.tmp 49, Operand.tmp 51, Operand.tmp 52], argTypes := #[25, 34, 34, 38, 3] }, type := 41, pos := "exact.go:6213", after := #[{ on := 1, ground := Ground.data }, { on := 3, ground := Ground.data }, { on := 5, ground := Ground.data }, { on := 7, ground := Ground.data }, { on := 8, ground := Ground.data }, { on := 7, ground := Ground.chain }], guard := none },
      { dst := some 43, op := Op.move (Operand.tmp 53), type := 41, pos := "exact.go:6213", after := #[{ on := 9, ground := Ground.data }], guard := none },
      { dst := some 54, op := Op.extract (Operand.tmp 43) 0, type := 40, pos := "exact.go:6213", after := #[{ on := 10, ground := Ground.data }], guard := none },
      { dst := some 55, op := Op.extract (Operand.tmp 43) 1, type := 4, pos := "exact.go:6213", after := #[{ on := 10, ground := Ground.data }, { on := 14, ground := Ground.gcOnly Departure.lateStores }], guard := none },
      { dst := some 12, op := Op.alloc 40, type := 0, pos := "exact.go:6213", after := #[], guard := none },
      { dst := none, op := Op.store 40 (Operand.tmp 12) (Operand.tmp 54), type := 0, pos := "exact.go:6213", after := #[{ on := 13, ground := Ground.data }, { on := 11, ground := Ground.data }, { on := 9, ground := Ground.chain }, { on := 0, ground := Ground.phase }, { on := 1, ground := Ground.phase }, { on := 2, ground := Ground.phase }, { on := 3, ground := Ground.phase }, { on := 4, ground := Ground.phase }, { on := 5, ground := Ground.phase }, { on := 6, ground := Ground.phase }, { on := 7, ground := Ground.phase }, { on := 8, ground := Ground.phase }, { on := 9, ground := Ground.phase }, { on := 10, ground := Ground.phase }, { on := 11, ground := Ground.phase }, { on := 12, ground := Ground.textOnly Departure.lateStores }, { on := 13, ground := Ground.phase }], guard := none },
      { dst := some 13, op := Op.assign (Operand.tmp 55), type := 4, pos := "exact.go:6213", after := #[{ on := 12, ground := Ground.data }, { on := 14, ground := Ground.chain }, { on := 0, ground := Ground.phase }, { on := 1, ground := Ground.phase }, { on := 2, ground := Ground.phase }, { on := 3, ground := Ground.phase }, { on := 4, ground := Ground.phase }, { on := 5, ground := Ground.phase }, { on := 6, ground := Ground.phase }, { on := 7, ground := Ground.phase }, { on := 8, ground := Ground.phase }, { on := 9, ground := Ground.phase }, { on := 10, ground := Ground.phase }, { on := 11, ground := Ground.phase }, { on := 12, ground := Ground.phase }, { on := 13, ground := Ground.phase }, { on := 14, ground := Ground.phase }], guard := none }] true).wp Try.prog Q ⟨#[.slice xl nl cl, v1, v2, .slice xb nb cb, .int .i64 a4, v5, .pointer (some ⟨p, 0, none⟩), .pointer (some ⟨q, 0, none⟩), v8, v9, v10, v11, v12, v13, v14, v15, v16, v17, v18, v19, v20, v21, v22, v23, v24, v25, v26, v27, v28, v29, v30, v31, v32, v33, v34, v35, v36, v37, v38, v39, v40, v41, v42, v43, v44, v45, v46, v47, v48, v49, v50, v51, v52, v53, v54, v55, v56, v57, v58, v59, v60, v61, v62, v63, v64, v65, v66, v67, v68, v69, v70, v71, v72, v73, v74, v75, v76, v77, v78, v79, v80, v81, v82, v83, v84, v85, v86, v87, v88, v89, v90, v91, v92, v93, v94, v95, v96, v97, v98, v99, v100, v101, v102, v103, v104, v105, v106, v107, v108, v109, v110, v111, v112, v113, v114, v115, v116, v117, v118, v119, v120, v121, v122, v123, v124, v125, v126, v127, v128, v129, v130, v131, v132, v133, v134, v135, v136, v137, v138, v139, v140, v141, v142, v143, v144, v145, v146, v147, v148, v149, v150, v151, v152, v153, v154, v155, v156, v157, v158, v159, v160, v161, v162, v163, v164, v165, v166, v167], []⟩ w := by
  have HQ := Lib.hid hQ; clear hQ
  have hdr : Below w.heap.size w w.drew := (Below.refl _ _).drew
  have BB := Lib.hid hdr
  refine wp_region_noPanic ?_
  refine wp_region_held_drew (S := (fun w' => w'.cell? ⟨p, 0, none⟩ = some (.slice xk nk ck) ∧ w'.cell? ⟨q, 0, none⟩ = some (.slice xn nn cn))) (by kernel_rfl) ?_ (fun hHeld => ?_)
  · exact ⟨kc KK.out BB.out, kc KN.out BB.out⟩
  clear hdr
  generalize w.drew = wd at *
  refine wpAnyH_take (i := 0) (oi := { dst := some 44, op := Op.move (Operand.tmp 0), type := 22, pos := "exact.go:6213", after := #[], guard := none }) (v := ?_) rfl (by kernel_rfl) (by kernel_rfl) (by kernel_rfl) (fun _ _ _ h => h) (Or.inl ⟨by rfl, ?_⟩) (by assumption) ?_
  rotate_left
  · intro w' hSw; (try dsimp only at hSw); first | (go_simp; done) | (go_simp; with_reducible rfl)
  (try simp only [Act.put, List.setIfInBounds_toArray, List.set_cons_zero, List.set_cons_succ])
  refine wpAnyH_take (i := 2) (oi := { dst := some 46, op := Op.load 31 (Operand.tmp 6), type := 31, pos := "exact.go:6213", after := #[], guard := none }) (v := ?_) rfl (by kernel_rfl) (by kernel_rfl) (by kernel_rfl) (fun _ _ _ h => h) (Or.inl ⟨by rfl, ?_⟩) (by assumption) ?_
  rotate_left
  · intro w' hSw; (try dsimp only at hSw); first | (go_simp; done) | (go_simp; with_reducible rfl)
  (try simp only [Act.put, List.setIfInBounds_toArray, List.set_cons_zero, List.set_cons_succ])
  refine wpAnyH_take (i := 4) (oi := { dst := some 48, op := Op.load 31 (Operand.tmp 7), type := 31, pos := "exact.go:6213", after := #[], guard := none }) (v := ?_) rfl (by kernel_rfl) (by kernel_rfl) (by kernel_rfl) (fun _ _ _ h => h) (Or.inl ⟨by rfl, ?_⟩) (by assumption) ?_
  rotate_left
  · intro w' hSw; (try dsimp only at hSw); first | (go_simp; done) | (go_simp; with_reducible rfl)
  (try simp only [Act.put, List.setIfInBounds_toArray, List.set_cons_zero, List.set_cons_succ])
  refine wpAnyH_take (i := 6) (oi := { dst := some 50, op := Op.move (Operand.tmp 3), type := 38, pos := "exact.go:6213", after := #[], guard := none }) (v := ?_) rfl (by kernel_rfl) (by kernel_rfl) (by kernel_rfl) (fun _ _ _ h => h) (Or.inl ⟨by rfl, ?_⟩) (by assumption) ?_
  rotate_left
  · intro w' hSw; (try dsimp only at hSw); first | (go_simp; done) | (go_simp; with_reducible rfl)
  (try simp only [Act.put, List.setIfInBounds_toArray, List.set_cons_zero, List.set_cons_succ])
  refine wpAnyH_take (i := 8) (oi := { dst := some 52, op := Op.move (Operand.tmp 4), type := 3, pos := "exact.go:6213", after := #[], guard := none }) (v := ?_) rfl (by kernel_rfl) (by kernel_rfl) (by kernel_rfl) (fun _ _ _ h => h) (Or.inl ⟨by rfl, ?_⟩) (by assumption) ?_
  rotate_left
  · intro w' hSw; (try dsimp only at hSw); first | (go_simp; done) | (go_simp; with_reducible rfl)
  (try simp only [Act.put, List.setIfInBounds_toArray, List.set_cons_zero, List.set_cons_succ])
  refine wpAnyH_ready (rs := [1, 13]) (by kernel_rfl) (by simp) ?_
  refine AllReadyH.cons (o := { dst := some 45, op := Op.call { callee := Callee.value (Operand.func 12), args := #[Operand.tmp 44], argTypes := #[22] }, type := 25, pos := "exact.go:6213", after := #[{ on := 0, ground := Ground.data }], guard := none }) rfl (fun K hK => ?_) ?_
  ·
    go_simp
    refine (toKK _ l0 _ (H0.out.on BB.out) (by omega)).mono ?_
    rintro e wn1 ⟨v, rfl, ho, hb⟩
    obtain ⟨xA, nA, cA, rfl, ho⟩ := kK_shape ho
    have HA := Lib.hid ho.at; clear ho
    replace BB := Lib.hid (BB.out.trans (hb.mono BB.out.size))
    clear hb
    (try go_wp2_with fail)
    clear hHeld
    refine hK.out _ _ ?_ (fun hHeld => ?_)
    · (try dsimp only); exact ⟨kc KK.out BB.out, kc KN.out BB.out⟩
    clear hK K
    (try simp only [Act.put, List.setIfInBounds_toArray, List.set_cons_zero, List.set_cons_succ])
    refine wpAnyH_ready (rs := [3, 13]) (by kernel_rfl) (by simp) ?_
    refine AllReadyH.cons (o := { dst := some 47, op := Op.call { callee := Callee.value (Operand.func 17), args := #[Operand.tmp 46], argTypes := #[31] }, type := 34, pos := "exact.go:6213", after := #[{ on := 2, ground := Ground.data }, { on := 1, ground := Ground.chain }], guard := none }) rfl (fun K hK => ?_) ?_
    ·
      go_simp
      refine (toNK _ l1 _ (H1.out.on BB.out) (by have := Row.bulk_len l1; omega)).mono ?_
      rintro e wn2 ⟨v, rfl, ho, hb⟩
      obtain ⟨xB, nB, cB, rfl, ho⟩ := kN_shape ho
      have HBk := Lib.hid ho.at; clear ho
      replace HA := Lib.hid (HA.out.on hb)
      replace BB := Lib.hid (BB.out.trans (hb.mono BB.out.size))
      clear hb
      (try go_wp2_with fail)
      clear hHeld
      refine hK.out _ _ ?_ (fun hHeld => ?_)
      · (try dsimp only); exact ⟨kc KK.out BB.out, kc KN.out BB.out⟩
      clear hK K
      (try simp only [Act.put, List.setIfInBounds_toArray, List.set_cons_zero, List.set_cons_succ])
      refine wpAnyH_ready (rs := [5, 13]) (by kernel_rfl) (by simp) ?_
      refine AllReadyH.cons (o := { dst := some 49, op := Op.call { callee := Callee.value (Operand.func 17), args := #[Operand.tmp 48], argTypes := #[31] }, type := 34, pos := "exact.go:6213", after := #[{ on := 4, ground := Ground.data }, { on := 3, ground := Ground.chain }], guard := none }) rfl (fun K hK => ?_) ?_
      ·
        go_simp
        refine (toNK _ l2 _ (H2.out.on BB.out) (by have := Row.bulk_len l2; omega)).mono ?_
        rintro e wn3 ⟨v, rfl, ho, hb⟩
        obtain ⟨xC, nC, cC, rfl, ho⟩ := kN_shape ho
        have HC := Lib.hid ho.at; clear ho
        replace HA := Lib.hid (HA.out.on hb)
        replace HBk := Lib.hid (HBk.out.on hb)
        replace BB := Lib.hid (BB.out.trans (hb.mono BB.out.size))
        clear hb
        (try go_wp2_with fail)
        clear hHeld
        refine hK.out _ _ ?_ (fun hHeld => ?_)
        · (try dsimp only); exact ⟨kc KK.out BB.out, kc KN.out BB.out⟩
        clear hK K
        (try simp only [Act.put, List.setIfInBounds_toArray, List.set_cons_zero, List.set_cons_succ])
        refine wpAnyH_ready (rs := [7, 13]) (by kernel_rfl) (by simp) ?_
        refine AllReadyH.cons (o := { dst := some 51, op := Op.call { callee := Callee.value (Operand.func 21), args := #[Operand.tmp 50], argTypes := #[38] }, type := 38, pos := "exact.go:6213", after := #[{ on := 6, ground := Ground.data }, { on := 5, ground := Ground.chain }], guard := none }) rfl (fun K hK => ?_) ?_
        ·
          go_simp
          refine (toB _ l3 _ (H3.out.on BB.out) (by omega)).mono ?_
          rintro e wn4 ⟨v, rfl, ho, hb⟩
          obtain ⟨xD, nD, cD, rfl, ho⟩ := kB_shape ho
          have HDb := Lib.hid ho.at; clear ho
          replace HA := Lib.hid (HA.out.on hb)
          replace HBk := Lib.hid (HBk.out.on hb)
          replace HC := Lib.hid (HC.out.on hb)
          replace BB := Lib.hid (BB.out.trans (hb.mono BB.out.size))
          clear hb
          (try go_wp2_with fail)
          clear hHeld
          refine hK.out _ _ ?_ (fun hHeld => ?_)
          · (try dsimp only); exact ⟨kc KK.out BB.out, kc KN.out BB.out⟩
          clear hK K
          (try simp only [Act.put, List.setIfInBounds_toArray, List.set_cons_zero, List.set_cons_succ])
          refine wpAnyH_ready (rs := [9, 13]) (by kernel_rfl) (by simp) ?_
          refine AllReadyH.cons (o := { dst := some 53, op := Op.call { callee := Callee.value (Operand.func 20), args := #[Operand.tmp 45, Operand.tmp 47, Operand.tmp 49, Operand.tmp 51, Operand.tmp 52], argTypes := #[25, 34, 34, 38, 3] }, type := 41, pos := "exact.go:6213", after := #[{ on := 1, ground := Ground.data }, { on := 3, ground := Ground.data }, { on := 5, ground := Ground.data }, { on := 7, ground := Ground.data }, { on := 8, ground := Ground.data }, { on := 7, ground := Ground.chain }], guard := none }) rfl (fun K hK => ?_) ?_
          ·
            go_simp
            refine (specSignWithKeyK _ _ _ _ l0 l1 l2 l3 a4 _ HA.out HBk.out HC.out HDb.out (Sl.byt_of_wf N3.out) (by omega) (by omega) (by omega) (by omega)).mono ?_
            rintro e wn5 ⟨v, rfl, ho, hb⟩
            obtain ⟨ya, ma, da, yb, mb, db, yc, mc, dc_, rfl, ho⟩ := kD_shape ho
            have HX := Lib.hid (show kD.In w.heap.size wn5.heap.size wn5 (.agg #[.slice ya ma da, .slice yb mb db, .slice yc mc dc_, .int .i64 (sgK l0 l1 l2 l3 a4).2.2.2.1, .int .i64 (sgK l0 l1 l2 l3 a4).2.2.2.2]) (sgK l0 l1 l2 l3 a4) from Kd.In.mono ho BB.out.size (Nat.le_refl _)); clear ho
            replace HA := Lib.hid (HA.out.on hb)
            replace HBk := Lib.hid (HBk.out.on hb)
            replace HC := Lib.hid (HC.out.on hb)
            replace HDb := Lib.hid (HDb.out.on hb)
            replace BB := Lib.hid (BB.out.trans (hb.mono BB.out.size))
            clear hb
            (try go_wp2_with fail)
            clear hHeld
            refine hK.out _ _ ?_ (fun hHeld => ?_)
            · (try dsimp only); exact ⟨kc KK.out BB.out, kc KN.out BB.out⟩
            clear hK K
            (try simp only [Act.put, List.setIfInBounds_toArray, List.set_cons_zero, List.set_cons_succ])
            refine wpAnyH_take (i := 10) (oi := { dst := some 43, op := Op.move (Operand.tmp 53), type := 41, pos := "exact.go:6213", after := #[{ on := 9, ground := Ground.data }], guard := none }) (v := ?_) rfl (by kernel_rfl) (by kernel_rfl) (by kernel_rfl) (fun _ _ _ h => h) (Or.inl ⟨by rfl, ?_⟩) (by assumption) ?_
            rotate_left
            · intro w' hSw; (try dsimp only at hSw); first | (go_simp; done) | (go_simp; with_reducible rfl)
            (try simp only [Act.put, List.setIfInBounds_toArray, List.set_cons_zero, List.set_cons_succ])
            refine wpAnyH_take (i := 11) (oi := { dst := some 54, op := Op.extract (Operand.tmp 43) 0, type := 40, pos := "exact.go:6213", after := #[{ on := 10, ground := Ground.data }], guard := none }) (v := ?_) rfl (by kernel_rfl) (by kernel_rfl) (by kernel_rfl) (fun _ _ _ h => h) (Or.inl ⟨by rfl, ?_⟩) (by assumption) ?_
            rotate_left
            · intro w' hSw; (try dsimp only at hSw); first | (go_simp; done) | (go_simp; with_reducible rfl)
            (try simp only [Act.put, List.setIfInBounds_toArray, List.set_cons_zero, List.set_cons_succ])
            refine wpAnyH_take (i := 12) (oi := { dst := some 55, op := Op.extract (Operand.tmp 43) 1, type := 4, pos := "exact.go:6213", after := #[{ on := 10, ground := Ground.data }, { on := 14, ground := Ground.gcOnly Departure.lateStores }], guard := none }) (v := ?_) rfl (by kernel_rfl) (by kernel_rfl) (by kernel_rfl) (fun _ _ _ h => h) (Or.inl ⟨by rfl, ?_⟩) (by assumption) ?_
            rotate_left
            · intro w' hSw; (try dsimp only at hSw); first | (go_simp; done) | (go_simp; with_reducible rfl)
            (try simp only [Act.put, List.setIfInBounds_toArray, List.set_cons_zero, List.set_cons_succ])
            refine wpAnyH_ready (rs := [13]) (by kernel_rfl) (by simp) ?_
            refine AllReadyH.cons (o := { dst := some 12, op := Op.alloc 40, type := 0, pos := "exact.go:6213", after := #[], guard := none }) rfl (fun K hK => ?_) AllReadyH.nil
            go_simp
            have hb : Below wn5.heap.size wn5 (wn5.alloc (.cells #[.slice none 0 0, .slice none 0 0, .slice none 0 0, .int .i64 0, .int .i64 0] 40)) := (Below.refl _ _).alloc (Nat.le_refl _) _
            obtain ⟨gD, hgD⟩ : ∃ g, g = wn5.heap.size := ⟨_, rfl⟩
            have XD := Lib.hid (show Ret.Blk (wn5.alloc (.cells #[.slice none 0 0, .slice none 0 0, .slice none 0 0, .int .i64 0, .int .i64 0] 40)) gD (dc (.slice none 0 0) (.slice none 0 0) (.slice none 0 0) 0 0) 40 from by rw [hgD]; exact Ret.Blk.new wn5 _ _)
            have HDW := Lib.hid (show w.heap.size ≤ gD from by rw [hgD]; exact BB.out.size)
            (first | replace HX := Lib.hid (show kD.In w.heap.size (wn5.alloc (.cells #[.slice none 0 0, .slice none 0 0, .slice none 0 0, .int .i64 0, .int .i64 0] 40)).heap.size (wn5.alloc (.cells #[.slice none 0 0, .slice none 0 0, .slice none 0 0, .int .i64 0, .int .i64 0] 40)) (.agg #[.slice ya ma da, .slice yb mb db, .slice yc mc dc_, .int .i64 (sgK l0 l1 l2 l3 a4).2.2.2.1, .int .i64 (sgK l0 l1 l2 l3 a4).2.2.2.2]) (sgK l0 l1 l2 l3 a4) from Kd.In.mono (Kd.In.on HX.out hb) (Nat.le_refl _) hb.size) | skip)
            rw [← hgD]
            clear hgD
            replace HA := Lib.hid (HA.out.on hb)
            replace HBk := Lib.hid (HBk.out.on hb)
            replace HC := Lib.hid (HC.out.on hb)
            replace HDb := Lib.hid (HDb.out.on hb)
            replace BB := Lib.hid (BB.out.trans (hb.mono BB.out.size))
            clear hb
            generalize wn5.alloc (.cells #[.slice none 0 0, .slice none 0 0, .slice none 0 0, .int .i64 0, .int .i64 0] 40) = wn6 at *
            clear hHeld
            refine hK.out _ _ ?_ (fun hHeld => ?_)
            · (try dsimp only); exact ⟨kc KK.out BB.out, kc KN.out BB.out⟩
            clear hK K
            (try simp only [Act.put, List.setIfInBounds_toArray, List.set_cons_zero, List.set_cons_succ])
            refine wpAnyH_ready (rs := [14]) (by kernel_rfl) (by simp) ?_
            refine AllReadyH.cons (o := { dst := none, op := Op.store 40 (Operand.tmp 12) (Operand.tmp 54), type := 0, pos := "exact.go:6213", after := #[{ on := 13, ground := Ground.data }, { on := 11, ground := Ground.data }, { on := 9, ground := Ground.chain }, { on := 0, ground := Ground.phase }, { on := 1, ground := Ground.phase }, { on := 2, ground := Ground.phase }, { on := 3, ground := Ground.phase }, { on := 4, ground := Ground.phase }, { on := 5, ground := Ground.phase }, { on := 6, ground := Ground.phase }, { on := 7, ground := Ground.phase }, { on := 8, ground := Ground.phase }, { on := 9, ground := Ground.phase }, { on := 10, ground := Ground.phase }, { on := 11, ground := Ground.phase }, { on := 12, ground := Ground.textOnly Departure.lateStores }, { on := 13, ground := Ground.phase }], guard := none }) rfl (fun K hK => ?_) AllReadyH.nil
            obtain ⟨r0, r1, r2, r3, r4⟩ := cells5 XD.out
            obtain ⟨t0, t1, t2, t3, t4⟩ := froz5 XD.out
            go_simp
            clear hHeld
            refine hK.out _ _ ?_ (fun hHeld => ?_)
            · (try dsimp only); exact ⟨cell_five (kc KK.out BB.out) (by have h1 : p < w.heap.size := cell_lt KK.out; have h2 := HDW.out; omega), cell_five (kc KN.out BB.out) (by have h1 : q < w.heap.size := cell_lt KN.out; have h2 := HDW.out; omega)⟩
            clear hK K
            (try simp only [Act.put, List.setIfInBounds_toArray, List.set_cons_zero, List.set_cons_succ])
            refine wpAnyH_take (i := 15) (oi := { dst := some 13, op := Op.assign (Operand.tmp 55), type := 4, pos := "exact.go:6213", after := #[{ on := 12, ground := Ground.data }, { on := 14, ground := Ground.chain }, { on := 0, ground := Ground.phase }, { on := 1, ground := Ground.phase }, { on := 2, ground := Ground.phase }, { on := 3, ground := Ground.phase }, { on := 4, ground := Ground.phase }, { on := 5, ground := Ground.phase }, { on := 6, ground := Ground.phase }, { on := 7, ground := Ground.phase }, { on := 8, ground := Ground.phase }, { on := 9, ground := Ground.phase }, { on := 10, ground := Ground.phase }, { on := 11, ground := Ground.phase }, { on := 12, ground := Ground.phase }, { on := 13, ground := Ground.phase }, { on := 14, ground := Ground.phase }], guard := none }) (v := ?_) rfl (by kernel_rfl) (by kernel_rfl) (by kernel_rfl) (fun _ _ _ h => h) (Or.inl ⟨by rfl, ?_⟩) (by assumption) ?_
            rotate_left
            · intro w' hSw; (try dsimp only at hSw); first | (go_simp; done) | (go_simp; with_reducible rfl)
            (try simp only [Act.put, List.setIfInBounds_toArray, List.set_cons_zero, List.set_cons_succ])
            refine wpAnyH_done (by kernel_rfl) ?_ _
            exact NoPanic.normal (HQ.out _ _ _ _ _ _ _ _ _ _ _ _ _ gD ma da mb db mc dc_ ya yb yc _ HDW.out XD.out HX.out BB.out)
          refine AllReadyH.cons (o := { dst := some 12, op := Op.alloc 40, type := 0, pos := "exact.go:6213", after := #[], guard := none }) rfl (fun K hK => ?_) AllReadyH.nil
          go_simp
          have hb : Below wn4.heap.size wn4 (wn4.alloc (.cells #[.slice none 0 0, .slice none 0 0, .slice none 0 0, .int .i64 0, .int .i64 0] 40)) := (Below.refl _ _).alloc (Nat.le_refl _) _
          obtain ⟨gD, hgD⟩ : ∃ g, g = wn4.heap.size := ⟨_, rfl⟩
          have XD := Lib.hid (show Ret.Blk (wn4.alloc (.cells #[.slice none 0 0, .slice none 0 0, .slice none 0 0, .int .i64 0, .int .i64 0] 40)) gD (dc (.slice none 0 0) (.slice none 0 0) (.slice none 0 0) 0 0) 40 from by rw [hgD]; exact Ret.Blk.new wn4 _ _)
          have HDW := Lib.hid (show w.heap.size ≤ gD from by rw [hgD]; exact BB.out.size)
          (first | replace HX := Lib.hid (show kD.In w.heap.size (wn4.alloc (.cells #[.slice none 0 0, .slice none 0 0, .slice none 0 0, .int .i64 0, .int .i64 0] 40)).heap.size (wn4.alloc (.cells #[.slice none 0 0, .slice none 0 0, .slice none 0 0, .int .i64 0, .int .i64 0] 40)) (.agg #[.slice ya ma da, .slice yb mb db, .slice yc mc dc_, .int .i64 (sgK l0 l1 l2 l3 a4).2.2.2.1, .int .i64 (sgK l0 l1 l2 l3 a4).2.2.2.2]) (sgK l0 l1 l2 l3 a4) from Kd.In.mono (Kd.In.on HX.out hb) (Nat.le_refl _) hb.size) | skip)
          rw [← hgD]
          clear hgD
          replace HA := Lib.hid (HA.out.on hb)
          replace HBk := Lib.hid (HBk.out.on hb)
          replace HC := Lib.hid (HC.out.on hb)
          replace HDb := Lib.hid (HDb.out.on hb)
          replace BB := Lib.hid (BB.out.trans (hb.mono BB.out.size))
          clear hb
          generalize wn4.alloc (.cells #[.slice none 0 0, .slice none 0 0, .slice none 0 0, .int .i64 0, .int .i64 0] 40) = wn8 at *
          clear hHeld
          refine hK.out _ _ ?_ (fun hHeld => ?_)
          · (try dsimp only); exact ⟨kc KK.out BB.out, kc KN.out BB.out⟩
          clear hK K
          (try simp only [Act.put, List.setIfInBounds_toArray, List.set_cons_zero, List.set_cons_succ])
          refine wpAnyH_ready (rs := [9]) (by kernel_rfl) (by simp) ?_
          refine AllReadyH.cons (o := { dst := some 53, op := Op.call { callee := Callee.value (Operand.func 20), args := #[Operand.tmp 45, Operand.tmp 47, Operand.tmp 49, Operand.tmp 51, Operand.tmp 52], argTypes := #[25, 34, 34, 38, 3] }, type := 41, pos := "exact.go:6213", after := #[{ on := 1, ground := Ground.data }, { on := 3, ground := Ground.data }, { on := 5, ground := Ground.data }, { on := 7, ground := Ground.data }, { on := 8, ground := Ground.data }, { on := 7, ground := Ground.chain }], guard := none }) rfl (fun K hK => ?_) AllReadyH.nil
          go_simp
          refine (specSignWithKeyK _ _ _ _ l0 l1 l2 l3 a4 _ HA.out HBk.out HC.out HDb.out (Sl.byt_of_wf N3.out) (by omega) (by omega) (by omega) (by omega)).mono ?_
          rintro e wn9 ⟨v, rfl, ho, hb⟩
          obtain ⟨ya, ma, da, yb, mb, db, yc, mc, dc_, rfl, ho⟩ := kD_shape ho
          have HX := Lib.hid (show kD.In w.heap.size wn9.heap.size wn9 (.agg #[.slice ya ma da, .slice yb mb db, .slice yc mc dc_, .int .i64 (sgK l0 l1 l2 l3 a4).2.2.2.1, .int .i64 (sgK l0 l1 l2 l3 a4).2.2.2.2]) (sgK l0 l1 l2 l3 a4) from Kd.In.mono ho BB.out.size (Nat.le_refl _)); clear ho
          replace HA := Lib.hid (HA.out.on hb)
          replace HBk := Lib.hid (HBk.out.on hb)
          replace HC := Lib.hid (HC.out.on hb)
          replace HDb := Lib.hid (HDb.out.on hb)
          replace XD := Lib.hid (XD.out.on hb)
          replace BB := Lib.hid (BB.out.trans (hb.mono BB.out.size))
          clear hb
          (try go_wp2_with fail)
          clear hHeld
          refine hK.out _ _ ?_ (fun hHeld => ?_)
          · (try dsimp only); exact ⟨kc KK.out BB.out, kc KN.out BB.out⟩
          clear hK K
          (try simp only [Act.put, List.setIfInBounds_toArray, List.set_cons_zero, List.set_cons_succ])
          refine wpAnyH_take (i := 10) (oi := { dst := some 43, op := Op.move (Operand.tmp 53), type := 41, pos := "exact.go:6213", after := #[{ on := 9, ground := Ground.data }], guard := none }) (v := ?_) rfl (by kernel_rfl) (by kernel_rfl) (by kernel_rfl) (fun _ _ _ h => h) (Or.inl ⟨by rfl, ?_⟩) (by assumption) ?_
          rotate_left
          · intro w' hSw; (try dsimp only at hSw); first | (go_simp; done) | (go_simp; with_reducible rfl)
          (try simp only [Act.put, List.setIfInBounds_toArray, List.set_cons_zero, List.set_cons_succ])
          refine wpAnyH_take (i := 11) (oi := { dst := some 54, op := Op.extract (Operand.tmp 43) 0, type := 40, pos := "exact.go:6213", after := #[{ on := 10, ground := Ground.data }], guard := none }) (v := ?_) rfl (by kernel_rfl) (by kernel_rfl) (by kernel_rfl) (fun _ _ _ h => h) (Or.inl ⟨by rfl, ?_⟩) (by assumption) ?_
          rotate_left
          · intro w' hSw; (try dsimp only at hSw); first | (go_simp; done) | (go_simp; with_reducible rfl)
          (try simp only [Act.put, List.setIfInBounds_toArray, List.set_cons_zero, List.set_cons_succ])
          refine wpAnyH_take (i := 12) (oi := { dst := some 55, op := Op.extract (Operand.tmp 43) 1, type := 4, pos := "exact.go:6213", after := #[{ on := 10, ground := Ground.data }, { on := 14, ground := Ground.gcOnly Departure.lateStores }], guard := none }) (v := ?_) rfl (by kernel_rfl) (by kernel_rfl) (by kernel_rfl) (fun _ _ _ h => h) (Or.inl ⟨by rfl, ?_⟩) (by assumption) ?_
          rotate_left
          · intro w' hSw; (try dsimp only at hSw); first | (go_simp; done) | (go_simp; with_reducible rfl)
          (try simp only [Act.put, List.setIfInBounds_toArray, List.set_cons_zero, List.set_cons_succ])
          refine wpAnyH_ready (rs := [14]) (by kernel_rfl) (by simp) ?_
          refine AllReadyH.cons (o := { dst := none, op := Op.store 40 (Operand.tmp 12) (Operand.tmp 54), type := 0, pos := "exact.go:6213", after := #[{ on := 13, ground := Ground.data }, { on := 11, ground := Ground.data }, { on := 9, ground := Ground.chain }, { on := 0, ground := Ground.phase }, { on := 1, ground := Ground.phase }, { on := 2, ground := Ground.phase }, { on := 3, ground := Ground.phase }, { on := 4, ground := Ground.phase }, { on := 5, ground := Ground.phase }, { on := 6, ground := Ground.phase }, { on := 7, ground := Ground.phase }, { on := 8, ground := Ground.phase }, { on := 9, ground := Ground.phase }, { on := 10, ground := Ground.phase }, { on := 11, ground := Ground.phase }, { on := 12, ground := Ground.textOnly Departure.lateStores }, { on := 13, ground := Ground.phase }], guard := none }) rfl (fun K hK => ?_) AllReadyH.nil
          obtain ⟨r0, r1, r2, r3, r4⟩ := cells5 XD.out
          obtain ⟨t0, t1, t2, t3, t4⟩ := froz5 XD.out
          go_simp
          clear hHeld
          refine hK.out _ _ ?_ (fun hHeld => ?_)
          · (try dsimp only); exact ⟨cell_five (kc KK.out BB.out) (by have h1 : p < w.heap.size := cell_lt KK.out; have h2 := HDW.out; omega), cell_five (kc KN.out BB.out) (by have h1 : q < w.heap.size := cell_lt KN.out; have h2 := HDW.out; omega)⟩
          clear hK K
          (try simp only [Act.put, List.setIfInBounds_toArray, List.set_cons_zero, List.set_cons_succ])
          refine wpAnyH_take (i := 15) (oi := { dst := some 13, op := Op.assign (Operand.tmp 55), type := 4, pos := "exact.go:6213", after := #[{ on := 12, ground := Ground.data }, { on := 14, ground := Ground.chain }, { on := 0, ground := Ground.phase }, { on := 1, ground := Ground.phase }, { on := 2, ground := Ground.phase }, { on := 3, ground := Ground.phase }, { on := 4, ground := Ground.phase }, { on := 5, ground := Ground.phase }, { on := 6, ground := Ground.phase }, { on := 7, ground := Ground.phase }, { on := 8, ground := Ground.phase }, { on := 9, ground := Ground.phase }, { on := 10, ground := Ground.phase }, { on := 11, ground := Ground.phase }, { on := 12, ground := Ground.phase }, { on := 13, ground := Ground.phase }, { on := 14, ground := Ground.phase }], guard := none }) (v := ?_) rfl (by kernel_rfl) (by kernel_rfl) (by kernel_rfl) (fun _ _ _ h => h) (Or.inl ⟨by rfl, ?_⟩) (by assumption) ?_
          rotate_left
          · intro w' hSw; (try dsimp only at hSw); first | (go_simp; done) | (go_simp; with_reducible rfl)
          (try simp only [Act.put, List.setIfInBounds_toArray, List.set_cons_zero, List.set_cons_succ])
          refine wpAnyH_done (by kernel_rfl) ?_ _
          exact NoPanic.normal (HQ.out _ _ _ _ _ _ _ _ _ _ _ _ _ gD ma da mb db mc dc_ ya yb yc _ HDW.out XD.out HX.out BB.out)
        refine AllReadyH.cons (o := { dst := some 12, op := Op.alloc 40, type := 0, pos := "exact.go:6213", after := #[], guard := none }) rfl (fun K hK => ?_) AllReadyH.nil
        go_simp
        have hb : Below wn3.heap.size wn3 (wn3.alloc (.cells #[.slice none 0 0, .slice none 0 0, .slice none 0 0, .int .i64 0, .int .i64 0] 40)) := (Below.refl _ _).alloc (Nat.le_refl _) _
        obtain ⟨gD, hgD⟩ : ∃ g, g = wn3.heap.size := ⟨_, rfl⟩
        have XD := Lib.hid (show Ret.Blk (wn3.alloc (.cells #[.slice none 0 0, .slice none 0 0, .slice none 0 0, .int .i64 0, .int .i64 0] 40)) gD (dc (.slice none 0 0) (.slice none 0 0) (.slice none 0 0) 0 0) 40 from by rw [hgD]; exact Ret.Blk.new wn3 _ _)
        have HDW := Lib.hid (show w.heap.size ≤ gD from by rw [hgD]; exact BB.out.size)
        (first | replace HX := Lib.hid (show kD.In w.heap.size (wn3.alloc (.cells #[.slice none 0 0, .slice none 0 0, .slice none 0 0, .int .i64 0, .int .i64 0] 40)).heap.size (wn3.alloc (.cells #[.slice none 0 0, .slice none 0 0, .slice none 0 0, .int .i64 0, .int .i64 0] 40)) (.agg #[.slice ya ma da, .slice yb mb db, .slice yc mc dc_, .int .i64 (sgK l0 l1 l2 l3 a4).2.2.2.1, .int .i64 (sgK l0 l1 l2 l3 a4).2.2.2.2]) (sgK l0 l1 l2 l3 a4) from Kd.In.mono (Kd.In.on HX.out hb) (Nat.le_refl _) hb.size) | skip)
        rw [← hgD]
        clear hgD
        replace HA := Lib.hid (HA.out.on hb)
        replace HBk := Lib.hid (HBk.out.on hb)
        replace HC := Lib.hid (HC.out.on hb)
        replace BB := Lib.hid (BB.out.trans (hb.mono BB.out.size))
        clear hb
        generalize wn3.alloc (.cells #[.slice none 0 0, .slice none 0 0, .slice none 0 0, .int .i64 0, .int .i64 0] 40) = wn11 at *
        clear hHeld
        refine hK.out _ _ ?_ (fun hHeld => ?_)
        · (try dsimp only); exact ⟨kc KK.out BB.out, kc KN.out BB.out⟩
        clear hK K
        (try simp only [Act.put, List.setIfInBounds_toArray, List.set_cons_zero, List.set_cons_succ])
        refine wpAnyH_ready (rs := [7]) (by kernel_rfl) (by simp) ?_
        refine AllReadyH.cons (o := { dst := some 51, op := Op.call { callee := Callee.value (Operand.func 21), args := #[Operand.tmp 50], argTypes := #[38] }, type := 38, pos := "exact.go:6213", after := #[{ on := 6, ground := Ground.data }, { on := 5, ground := Ground.chain }], guard := none }) rfl (fun K hK => ?_) AllReadyH.nil
        go_simp
        refine (toB _ l3 _ (H3.out.on BB.out) (by omega)).mono ?_
        rintro e wn12 ⟨v, rfl, ho, hb⟩
        obtain ⟨xD, nD, cD, rfl, ho⟩ := kB_shape ho
        have HDb := Lib.hid ho.at; clear ho
        replace HA := Lib.hid (HA.out.on hb)
        replace HBk := Lib.hid (HBk.out.on hb)
        replace HC := Lib.hid (HC.out.on hb)
        replace XD := Lib.hid (XD.out.on hb)
        replace BB := Lib.hid (BB.out.trans (hb.mono BB.out.size))
        clear hb
        (try go_wp2_with fail)
        clear hHeld
        refine hK.out _ _ ?_ (fun hHeld => ?_)
        · (try dsimp only); exact ⟨kc KK.out BB.out, kc KN.out BB.out⟩
        clear hK K
        (try simp only [Act.put, List.setIfInBounds_toArray, List.set_cons_zero, List.set_cons_succ])
        refine wpAnyH_ready (rs := [9]) (by kernel_rfl) (by simp) ?_
        refine AllReadyH.cons (o := { dst := some 53, op := Op.call { callee := Callee.value (Operand.func 20), args := #[Operand.tmp 45, Operand.tmp 47, Operand.tmp 49, Operand.tmp 51, Operand.tmp 52], argTypes := #[25, 34, 34, 38, 3] }, type := 41, pos := "exact.go:6213", after := #[{ on := 1, ground := Ground.data }, { on := 3, ground := Ground.data }, { on := 5, ground := Ground.data }, { on := 7, ground := Ground.data }, { on := 8, ground := Ground.data }, { on := 7, ground := Ground.chain }], guard := none }) rfl (fun K hK => ?_) AllReadyH.nil
        go_simp
        refine (specSignWithKeyK _ _ _ _ l0 l1 l2 l3 a4 _ HA.out HBk.out HC.out HDb.out (Sl.byt_of_wf N3.out) (by omega) (by omega) (by omega) (by omega)).mono ?_
        rintro e wn13 ⟨v, rfl, ho, hb⟩
        obtain ⟨ya, ma, da, yb, mb, db, yc, mc, dc_, rfl, ho⟩ := kD_shape ho
        have HX := Lib.hid (show kD.In w.heap.size wn13.heap.size wn13 (.agg #[.slice ya ma da, .slice yb mb db, .slice yc mc dc_, .int .i64 (sgK l0 l1 l2 l3 a4).2.2.2.1, .int .i64 (sgK l0 l1 l2 l3 a4).2.2.2.2]) (sgK l0 l1 l2 l3 a4) from Kd.In.mono ho BB.out.size (Nat.le_refl _)); clear ho
        replace HA := Lib.hid (HA.out.on hb)
        replace HBk := Lib.hid (HBk.out.on hb)
        replace HC := Lib.hid (HC.out.on hb)
        replace XD := Lib.hid (XD.out.on hb)
        replace HDb := Lib.hid (HDb.out.on hb)
        replace BB := Lib.hid (BB.out.trans (hb.mono BB.out.size))
        clear hb
        (try go_wp2_with fail)
        clear hHeld
        refine hK.out _ _ ?_ (fun hHeld => ?_)
        · (try dsimp only); exact ⟨kc KK.out BB.out, kc KN.out BB.out⟩
        clear hK K
        (try simp only [Act.put, List.setIfInBounds_toArray, List.set_cons_zero, List.set_cons_succ])
        refine wpAnyH_take (i := 10) (oi := { dst := some 43, op := Op.move (Operand.tmp 53), type := 41, pos := "exact.go:6213", after := #[{ on := 9, ground := Ground.data }], guard := none }) (v := ?_) rfl (by kernel_rfl) (by kernel_rfl) (by kernel_rfl) (fun _ _ _ h => h) (Or.inl ⟨by rfl, ?_⟩) (by assumption) ?_
        rotate_left
        · intro w' hSw; (try dsimp only at hSw); first | (go_simp; done) | (go_simp; with_reducible rfl)
        (try simp only [Act.put, List.setIfInBounds_toArray, List.set_cons_zero, List.set_cons_succ])
        refine wpAnyH_take (i := 11) (oi := { dst := some 54, op := Op.extract (Operand.tmp 43) 0, type := 40, pos := "exact.go:6213", after := #[{ on := 10, ground := Ground.data }], guard := none }) (v := ?_) rfl (by kernel_rfl) (by kernel_rfl) (by kernel_rfl) (fun _ _ _ h => h) (Or.inl ⟨by rfl, ?_⟩) (by assumption) ?_
        rotate_left
        · intro w' hSw; (try dsimp only at hSw); first | (go_simp; done) | (go_simp; with_reducible rfl)
        (try simp only [Act.put, List.setIfInBounds_toArray, List.set_cons_zero, List.set_cons_succ])
        refine wpAnyH_take (i := 12) (oi := { dst := some 55, op := Op.extract (Operand.tmp 43) 1, type := 4, pos := "exact.go:6213", after := #[{ on := 10, ground := Ground.data }, { on := 14, ground := Ground.gcOnly Departure.lateStores }], guard := none }) (v := ?_) rfl (by kernel_rfl) (by kernel_rfl) (by kernel_rfl) (fun _ _ _ h => h) (Or.inl ⟨by rfl, ?_⟩) (by assumption) ?_
        rotate_left
        · intro w' hSw; (try dsimp only at hSw); first | (go_simp; done) | (go_simp; with_reducible rfl)
        (try simp only [Act.put, List.setIfInBounds_toArray, List.set_cons_zero, List.set_cons_succ])
        refine wpAnyH_ready (rs := [14]) (by kernel_rfl) (by simp) ?_
        refine AllReadyH.cons (o := { dst := none, op := Op.store 40 (Operand.tmp 12) (Operand.tmp 54), type := 0, pos := "exact.go:6213", after := #[{ on := 13, ground := Ground.data }, { on := 11, ground := Ground.data }, { on := 9, ground := Ground.chain }, { on := 0, ground := Ground.phase }, { on := 1, ground := Ground.phase }, { on := 2, ground := Ground.phase }, { on := 3, ground := Ground.phase }, { on := 4, ground := Ground.phase }, { on := 5, ground := Ground.phase }, { on := 6, ground := Ground.phase }, { on := 7, ground := Ground.phase }, { on := 8, ground := Ground.phase }, { on := 9, ground := Ground.phase }, { on := 10, ground := Ground.phase }, { on := 11, ground := Ground.phase }, { on := 12, ground := Ground.textOnly Departure.lateStores }, { on := 13, ground := Ground.phase }], guard := none }) rfl (fun K hK => ?_) AllReadyH.nil
        obtain ⟨r0, r1, r2, r3, r4⟩ := cells5 XD.out
        obtain ⟨t0, t1, t2, t3, t4⟩ := froz5 XD.out
        go_simp
        clear hHeld
        refine hK.out _ _ ?_ (fun hHeld => ?_)
        · (try dsimp only); exact ⟨cell_five (kc KK.out BB.out) (by have h1 : p < w.heap.size := cell_lt KK.out; have h2 := HDW.out; omega), cell_five (kc KN.out BB.out) (by have h1 : q < w.heap.size := cell_lt KN.out; have h2 := HDW.out; omega)⟩
        clear hK K
        (try simp only [Act.put, List.setIfInBounds_toArray, List.set_cons_zero, List.set_cons_succ])
        refine wpAnyH_take (i := 15) (oi := { dst := some 13, op := Op.assign (Operand.tmp 55), type := 4, pos := "exact.go:6213", after := #[{ on := 12, ground := Ground.data }, { on := 14, ground := Ground.chain }, { on := 0, ground := Ground.phase }, { on := 1, ground := Ground.phase }, { on := 2, ground := Ground.phase }, { on := 3, ground := Ground.phase }, { on := 4, ground := Ground.phase }, { on := 5, ground := Ground.phase }, { on := 6, ground := Ground.phase }, { on := 7, ground := Ground.phase }, { on := 8, ground := Ground.phase }, { on := 9, ground := Ground.phase }, { on := 10, ground := Ground.phase }, { on := 11, ground := Ground.phase }, { on := 12, ground := Ground.phase }, { on := 13, ground := Ground.phase }, { on := 14, ground := Ground.phase }], guard := none }) (v := ?_) rfl (by kernel_rfl) (by kernel_rfl) (by kernel_rfl) (fun _ _ _ h => h) (Or.inl ⟨by rfl, ?_⟩) (by assumption) ?_
        rotate_left
        · intro w' hSw; (try dsimp only at hSw); first | (go_simp; done) | (go_simp; with_reducible rfl)
        (try simp only [Act.put, List.setIfInBounds_toArray, List.set_cons_zero, List.set_cons_succ])
        refine wpAnyH_done (by kernel_rfl) ?_ _
        exact NoPanic.normal (HQ.out _ _ _ _ _ _ _ _ _ _ _ _ _ gD ma da mb db mc dc_ ya yb yc _ HDW.out XD.out HX.out BB.out)
      refine AllReadyH.cons (o := { dst := some 12, op := Op.alloc 40, type := 0, pos := "exact.go:6213", after := #[], guard := none }) rfl (fun K hK => ?_) AllReadyH.nil
      go_simp
      have hb : Below wn2.heap.size wn2 (wn2.alloc (.cells #[.slice none 0 0, .slice none 0 0, .slice none 0 0, .int .i64 0, .int .i64 0] 40)) := (Below.refl _ _).alloc (Nat.le_refl _) _
      obtain ⟨gD, hgD⟩ : ∃ g, g = wn2.heap.size := ⟨_, rfl⟩
      have XD := Lib.hid (show Ret.Blk (wn2.alloc (.cells #[.slice none 0 0, .slice none 0 0, .slice none 0 0, .int .i64 0, .int .i64 0] 40)) gD (dc (.slice none 0 0) (.slice none 0 0) (.slice none 0 0) 0 0) 40 from by rw [hgD]; exact Ret.Blk.new wn2 _ _)
      have HDW := Lib.hid (show w.heap.size ≤ gD from by rw [hgD]; exact BB.out.size)
      (first | replace HX := Lib.hid (show kD.In w.heap.size (wn2.alloc (.cells #[.slice none 0 0, .slice none 0 0, .slice none 0 0, .int .i64 0, .int .i64 0] 40)).heap.size (wn2.alloc (.cells #[.slice none 0 0, .slice none 0 0, .slice none 0 0, .int .i64 0, .int .i64 0] 40)) (.agg #[.slice ya ma da, .slice yb mb db, .slice yc mc dc_, .int .i64 (sgK l0 l1 l2 l3 a4).2.2.2.1, .int .i64 (sgK l0 l1 l2 l3 a4).2.2.2.2]) (sgK l0 l1 l2 l3 a4) from Kd.In.mono (Kd.In.on HX.out hb) (Nat.le_refl _) hb.size) | skip)
      rw [← hgD]
      clear hgD
      replace HA := Lib.hid (HA.out.on hb)
      replace HBk := Lib.hid (HBk.out.on hb)
      replace BB := Lib.hid (BB.out.trans (hb.mono BB.out.size))
      clear hb
      generalize wn2.alloc (.cells #[.slice none 0 0, .slice none 0 0, .slice none 0 0, .int .i64 0, .int .i64 0] 40) = wn15 at *
      clear hHeld
      refine hK.out _ _ ?_ (fun hHeld => ?_)
      · (try dsimp only); exact ⟨kc KK.out BB.out, kc KN.out BB.out⟩
      clear hK K
      (try simp only [Act.put, List.setIfInBounds_toArray, List.set_cons_zero, List.set_cons_succ])
      refine wpAnyH_ready (rs := [5]) (by kernel_rfl) (by simp) ?_
      refine AllReadyH.cons (o := { dst := some 49, op := Op.call { callee := Callee.value (Operand.func 17), args := #[Operand.tmp 48], argTypes := #[31] }, type := 34, pos := "exact.go:6213", after := #[{ on := 4, ground := Ground.data }, { on := 3, ground := Ground.chain }], guard := none }) rfl (fun K hK => ?_) AllReadyH.nil
      go_simp
      refine (toNK _ l2 _ (H2.out.on BB.out) (by have := Row.bulk_len l2; omega)).mono ?_
      rintro e wn16 ⟨v, rfl, ho, hb⟩
      obtain ⟨xC, nC, cC, rfl, ho⟩ := kN_shape ho
      have HC := Lib.hid ho.at; clear ho
      replace HA := Lib.hid (HA.out.on hb)
      replace HBk := Lib.hid (HBk.out.on hb)
      replace XD := Lib.hid (XD.out.on hb)
      replace BB := Lib.hid (BB.out.trans (hb.mono BB.out.size))
      clear hb
      (try go_wp2_with fail)
      clear hHeld
      refine hK.out _ _ ?_ (fun hHeld => ?_)
      · (try dsimp only); exact ⟨kc KK.out BB.out, kc KN.out BB.out⟩
      clear hK K
      (try simp only [Act.put, List.setIfInBounds_toArray, List.set_cons_zero, List.set_cons_succ])
      refine wpAnyH_ready (rs := [7]) (by kernel_rfl) (by simp) ?_
      refine AllReadyH.cons (o := { dst := some 51, op := Op.call { callee := Callee.value (Operand.func 21), args := #[Operand.tmp 50], argTypes := #[38] }, type := 38, pos := "exact.go:6213", after := #[{ on := 6, ground := Ground.data }, { on := 5, ground := Ground.chain }], guard := none }) rfl (fun K hK => ?_) AllReadyH.nil
      go_simp
      refine (toB _ l3 _ (H3.out.on BB.out) (by omega)).mono ?_
      rintro e wn17 ⟨v, rfl, ho, hb⟩
      obtain ⟨xD, nD, cD, rfl, ho⟩ := kB_shape ho
      have HDb := Lib.hid ho.at; clear ho
      replace HA := Lib.hid (HA.out.on hb)
      replace HBk := Lib.hid (HBk.out.on hb)
      replace XD := Lib.hid (XD.out.on hb)
      replace HC := Lib.hid (HC.out.on hb)
      replace BB := Lib.hid (BB.out.trans (hb.mono BB.out.size))
      clear hb
      (try go_wp2_with fail)
      clear hHeld
      refine hK.out _ _ ?_ (fun hHeld => ?_)
      · (try dsimp only); exact ⟨kc KK.out BB.out, kc KN.out BB.out⟩
      clear hK K
      (try simp only [Act.put, List.setIfInBounds_toArray, List.set_cons_zero, List.set_cons_succ])
      refine wpAnyH_ready (rs := [9]) (by kernel_rfl) (by simp) ?_
      refine AllReadyH.cons (o := { dst := some 53, op := Op.call { callee := Callee.value (Operand.func 20), args := #[Operand.tmp 45, Operand.tmp 47, Operand.tmp 49, Operand.tmp 51, Operand.tmp 52], argTypes := #[25, 34, 34, 38, 3] }, type := 41, pos := "exact.go:6213", after := #[{ on := 1, ground := Ground.data }, { on := 3, ground := Ground.data }, { on := 5, ground := Ground.data }, { on := 7, ground := Ground.data }, { on := 8, ground := Ground.data }, { on := 7, ground := Ground.chain }], guard := none }) rfl (fun K hK => ?_) AllReadyH.nil
      go_simp
      refine (specSignWithKeyK _ _ _ _ l0 l1 l2 l3 a4 _ HA.out HBk.out HC.out HDb.out (Sl.byt_of_wf N3.out) (by omega) (by omega) (by omega) (by omega)).mono ?_
      rintro e wn18 ⟨v, rfl, ho, hb⟩
      obtain ⟨ya, ma, da, yb, mb, db, yc, mc, dc_, rfl, ho⟩ := kD_shape ho
      have HX := Lib.hid (show kD.In w.heap.size wn18.heap.size wn18 (.agg #[.slice ya ma da, .slice yb mb db, .slice yc mc dc_, .int .i64 (sgK l0 l1 l2 l3 a4).2.2.2.1, .int .i64 (sgK l0 l1 l2 l3 a4).2.2.2.2]) (sgK l0 l1 l2 l3 a4) from Kd.In.mono ho BB.out.size (Nat.le_refl _)); clear ho
      replace HA := Lib.hid (HA.out.on hb)
      replace HBk := Lib.hid (HBk.out.on hb)
      replace XD := Lib.hid (XD.out.on hb)
      replace HC := Lib.hid (HC.out.on hb)
      replace HDb := Lib.hid (HDb.out.on hb)
      replace BB := Lib.hid (BB.out.trans (hb.mono BB.out.size))
      clear hb
      (try go_wp2_with fail)
      clear hHeld
      refine hK.out _ _ ?_ (fun hHeld => ?_)
      · (try dsimp only); exact ⟨kc KK.out BB.out, kc KN.out BB.out⟩
      clear hK K
      (try simp only [Act.put, List.setIfInBounds_toArray, List.set_cons_zero, List.set_cons_succ])
      refine wpAnyH_take (i := 10) (oi := { dst := some 43, op := Op.move (Operand.tmp 53), type := 41, pos := "exact.go:6213", after := #[{ on := 9, ground := Ground.data }], guard := none }) (v := ?_) rfl (by kernel_rfl) (by kernel_rfl) (by kernel_rfl) (fun _ _ _ h => h) (Or.inl ⟨by rfl, ?_⟩) (by assumption) ?_
      rotate_left
      · intro w' hSw; (try dsimp only at hSw); first | (go_simp; done) | (go_simp; with_reducible rfl)
      (try simp only [Act.put, List.setIfInBounds_toArray, List.set_cons_zero, List.set_cons_succ])
      refine wpAnyH_take (i := 11) (oi := { dst := some 54, op := Op.extract (Operand.tmp 43) 0, type := 40, pos := "exact.go:6213", after := #[{ on := 10, ground := Ground.data }], guard := none }) (v := ?_) rfl (by kernel_rfl) (by kernel_rfl) (by kernel_rfl) (fun _ _ _ h => h) (Or.inl ⟨by rfl, ?_⟩) (by assumption) ?_
      rotate_left
      · intro w' hSw; (try dsimp only at hSw); first | (go_simp; done) | (go_simp; with_reducible rfl)
      (try simp only [Act.put, List.setIfInBounds_toArray, List.set_cons_zero, List.set_cons_succ])
      refine wpAnyH_take (i := 12) (oi := { dst := some 55, op := Op.extract (Operand.tmp 43) 1, type := 4, pos := "exact.go:6213", after := #[{ on := 10, ground := Ground.data }, { on := 14, ground := Ground.gcOnly Departure.lateStores }], guard := none }) (v := ?_) rfl (by kernel_rfl) (by kernel_rfl) (by kernel_rfl) (fun _ _ _ h => h) (Or.inl ⟨by rfl, ?_⟩) (by assumption) ?_
      rotate_left
      · intro w' hSw; (try dsimp only at hSw); first | (go_simp; done) | (go_simp; with_reducible rfl)
      (try simp only [Act.put, List.setIfInBounds_toArray, List.set_cons_zero, List.set_cons_succ])
      refine wpAnyH_ready (rs := [14]) (by kernel_rfl) (by simp) ?_
      refine AllReadyH.cons (o := { dst := none, op := Op.store 40 (Operand.tmp 12) (Operand.tmp 54), type := 0, pos := "exact.go:6213", after := #[{ on := 13, ground := Ground.data }, { on := 11, ground := Ground.data }, { on := 9, ground := Ground.chain }, { on := 0, ground := Ground.phase }, { on := 1, ground := Ground.phase }, { on := 2, ground := Ground.phase }, { on := 3, ground := Ground.phase }, { on := 4, ground := Ground.phase }, { on := 5, ground := Ground.phase }, { on := 6, ground := Ground.phase }, { on := 7, ground := Ground.phase }, { on := 8, ground := Ground.phase }, { on := 9, ground := Ground.phase }, { on := 10, ground := Ground.phase }, { on := 11, ground := Ground.phase }, { on := 12, ground := Ground.textOnly Departure.lateStores }, { on := 13, ground := Ground.phase }], guard := none }) rfl (fun K hK => ?_) AllReadyH.nil
      obtain ⟨r0, r1, r2, r3, r4⟩ := cells5 XD.out
      obtain ⟨t0, t1, t2, t3, t4⟩ := froz5 XD.out
      go_simp
      clear hHeld
      refine hK.out _ _ ?_ (fun hHeld => ?_)
      · (try dsimp only); exact ⟨cell_five (kc KK.out BB.out) (by have h1 : p < w.heap.size := cell_lt KK.out; have h2 := HDW.out; omega), cell_five (kc KN.out BB.out) (by have h1 : q < w.heap.size := cell_lt KN.out; have h2 := HDW.out; omega)⟩
      clear hK K
      (try simp only [Act.put, List.setIfInBounds_toArray, List.set_cons_zero, List.set_cons_succ])
      refine wpAnyH_take (i := 15) (oi := { dst := some 13, op := Op.assign (Operand.tmp 55), type := 4, pos := "exact.go:6213", after := #[{ on := 12, ground := Ground.data }, { on := 14, ground := Ground.chain }, { on := 0, ground := Ground.phase }, { on := 1, ground := Ground.phase }, { on := 2, ground := Ground.phase }, { on := 3, ground := Ground.phase }, { on := 4, ground := Ground.phase }, { on := 5, ground := Ground.phase }, { on := 6, ground := Ground.phase }, { on := 7, ground := Ground.phase }, { on := 8, ground := Ground.phase }, { on := 9, ground := Ground.phase }, { on := 10, ground := Ground.phase }, { on := 11, ground := Ground.phase }, { on := 12, ground := Ground.phase }, { on := 13, ground := Ground.phase }, { on := 14, ground := Ground.phase }], guard := none }) (v := ?_) rfl (by kernel_rfl) (by kernel_rfl) (by kernel_rfl) (fun _ _ _ h => h) (Or.inl ⟨by rfl, ?_⟩) (by assumption) ?_
      rotate_left
      · intro w' hSw; (try dsimp only at hSw); first | (go_simp; done) | (go_simp; with_reducible rfl)
      (try simp only [Act.put, List.setIfInBounds_toArray, List.set_cons_zero, List.set_cons_succ])
      refine wpAnyH_done (by kernel_rfl) ?_ _
      exact NoPanic.normal (HQ.out _ _ _ _ _ _ _ _ _ _ _ _ _ gD ma da mb db mc dc_ ya yb yc _ HDW.out XD.out HX.out BB.out)
    refine AllReadyH.cons (o := { dst := some 12, op := Op.alloc 40, type := 0, pos := "exact.go:6213", after := #[], guard := none }) rfl (fun K hK => ?_) AllReadyH.nil
    go_simp
    have hb : Below wn1.heap.size wn1 (wn1.alloc (.cells #[.slice none 0 0, .slice none 0 0, .slice none 0 0, .int .i64 0, .int .i64 0] 40)) := (Below.refl _ _).alloc (Nat.le_refl _) _
    obtain ⟨gD, hgD⟩ : ∃ g, g = wn1.heap.size := ⟨_, rfl⟩
    have XD := Lib.hid (show Ret.Blk (wn1.alloc (.cells #[.slice none 0 0, .slice none 0 0, .slice none 0 0, .int .i64 0, .int .i64 0] 40)) gD (dc (.slice none 0 0) (.slice none 0 0) (.slice none 0 0) 0 0) 40 from by rw [hgD]; exact Ret.Blk.new wn1 _ _)
    have HDW := Lib.hid (show w.heap.size ≤ gD from by rw [hgD]; exact BB.out.size)
    (first | replace HX := Lib.hid (show kD.In w.heap.size (wn1.alloc (.cells #[.slice none 0 0, .slice none 0 0, .slice none 0 0, .int .i64 0, .int .i64 0] 40)).heap.size (wn1.alloc (.cells #[.slice none 0 0, .slice none 0 0, .slice none 0 0, .int .i64 0, .int .i64 0] 40)) (.agg #[.slice ya ma da, .slice yb mb db, .slice yc mc dc_, .int .i64 (sgK l0 l1 l2 l3 a4).2.2.2.1, .int .i64 (sgK l0 l1 l2 l3 a4).2.2.2.2]) (sgK l0 l1 l2 l3 a4) from Kd.In.mono (Kd.In.on HX.out hb) (Nat.le_refl _) hb.size) | skip)
    rw [← hgD]
    clear hgD
    replace HA := Lib.hid (HA.out.on hb)
    replace BB := Lib.hid (BB.out.trans (hb.mono BB.out.size))
    clear hb
    generalize wn1.alloc (.cells #[.slice none 0 0, .slice none 0 0, .slice none 0 0, .int .i64 0, .int .i64 0] 40) = wn20 at *
    clear hHeld
    refine hK.out _ _ ?_ (fun hHeld => ?_)
    · (try dsimp only); exact ⟨kc KK.out BB.out, kc KN.out BB.out⟩
    clear hK K
    (try simp only [Act.put, List.setIfInBounds_toArray, List.set_cons_zero, List.set_cons_succ])
    refine wpAnyH_ready (rs := [3]) (by kernel_rfl) (by simp) ?_
    refine AllReadyH.cons (o := { dst := some 47, op := Op.call { callee := Callee.value (Operand.func 17), args := #[Operand.tmp 46], argTypes := #[31] }, type := 34, pos := "exact.go:6213", after := #[{ on := 2, ground := Ground.data }, { on := 1, ground := Ground.chain }], guard := none }) rfl (fun K hK => ?_) AllReadyH.nil
    go_simp
    refine (toNK _ l1 _ (H1.out.on BB.out) (by have := Row.bulk_len l1; omega)).mono ?_
    rintro e wn21 ⟨v, rfl, ho, hb⟩
    obtain ⟨xB, nB, cB, rfl, ho⟩ := kN_shape ho
    have HBk := Lib.hid ho.at; clear ho
    replace HA := Lib.hid (HA.out.on hb)
    replace XD := Lib.hid (XD.out.on hb)
    replace BB := Lib.hid (BB.out.trans (hb.mono BB.out.size))
    clear hb
    (try go_wp2_with fail)
    clear hHeld
    refine hK.out _ _ ?_ (fun hHeld => ?_)
    · (try dsimp only); exact ⟨kc KK.out BB.out, kc KN.out BB.out⟩
    clear hK K
    (try simp only [Act.put, List.setIfInBounds_toArray, List.set_cons_zero, List.set_cons_succ])
    refine wpAnyH_ready (rs := [5]) (by kernel_rfl) (by simp) ?_
    refine AllReadyH.cons (o := { dst := some 49, op := Op.call { callee := Callee.value (Operand.func 17), args := #[Operand.tmp 48], argTypes := #[31] }, type := 34, pos := "exact.go:6213", after := #[{ on := 4, ground := Ground.data }, { on := 3, ground := Ground.chain }], guard := none }) rfl (fun K hK => ?_) AllReadyH.nil
    go_simp
    refine (toNK _ l2 _ (H2.out.on BB.out) (by have := Row.bulk_len l2; omega)).mono ?_
    rintro e wn22 ⟨v, rfl, ho, hb⟩
    obtain ⟨xC, nC, cC, rfl, ho⟩ := kN_shape ho
    have HC := Lib.hid ho.at; clear ho
    replace HA := Lib.hid (HA.out.on hb)
    replace XD := Lib.hid (XD.out.on hb)
    replace HBk := Lib.hid (HBk.out.on hb)
    replace BB := Lib.hid (BB.out.trans (hb.mono BB.out.size))
    clear hb
    (try go_wp2_with fail)
    clear hHeld
    refine hK.out _ _ ?_ (fun hHeld => ?_)
    · (try dsimp only); exact ⟨kc KK.out BB.out, kc KN.out BB.out⟩
    clear hK K
    (try simp only [Act.put, List.setIfInBounds_toArray, List.set_cons_zero, List.set_cons_succ])
    refine wpAnyH_ready (rs := [7]) (by kernel_rfl) (by simp) ?_
    refine AllReadyH.cons (o := { dst := some 51, op := Op.call { callee := Callee.value (Operand.func 21), args := #[Operand.tmp 50], argTypes := #[38] }, type := 38, pos := "exact.go:6213", after := #[{ on := 6, ground := Ground.data }, { on := 5, ground := Ground.chain }], guard := none }) rfl (fun K hK => ?_) AllReadyH.nil
    go_simp
    refine (toB _ l3 _ (H3.out.on BB.out) (by omega)).mono ?_
    rintro e wn23 ⟨v, rfl, ho, hb⟩
    obtain ⟨xD, nD, cD, rfl, ho⟩ := kB_shape ho
    have HDb := Lib.hid ho.at; clear ho
    replace HA := Lib.hid (HA.out.on hb)
    replace XD := Lib.hid (XD.out.on hb)
    replace HBk := Lib.hid (HBk.out.on hb)
    replace HC := Lib.hid (HC.out.on hb)
    replace BB := Lib.hid (BB.out.trans (hb.mono BB.out.size))
    clear hb
    (try go_wp2_with fail)
    clear hHeld
    refine hK.out _ _ ?_ (fun hHeld => ?_)
    · (try dsimp only); exact ⟨kc KK.out BB.out, kc KN.out BB.out⟩
    clear hK K
    (try simp only [Act.put, List.setIfInBounds_toArray, List.set_cons_zero, List.set_cons_succ])
    refine wpAnyH_ready (rs := [9]) (by kernel_rfl) (by simp) ?_
    refine AllReadyH.cons (o := { dst := some 53, op := Op.call { callee := Callee.value (Operand.func 20), args := #[Operand.tmp 45, Operand.tmp 47, Operand.tmp 49, Operand.tmp 51, Operand.tmp 52], argTypes := #[25, 34, 34, 38, 3] }, type := 41, pos := "exact.go:6213", after := #[{ on := 1, ground := Ground.data }, { on := 3, ground := Ground.data }, { on := 5, ground := Ground.data }, { on := 7, ground := Ground.data }, { on := 8, ground := Ground.data }, { on := 7, ground := Ground.chain }], guard := none }) rfl (fun K hK => ?_) AllReadyH.nil
    go_simp
    refine (specSignWithKeyK _ _ _ _ l0 l1 l2 l3 a4 _ HA.out HBk.out HC.out HDb.out (Sl.byt_of_wf N3.out) (by omega) (by omega) (by omega) (by omega)).mono ?_
    rintro e wn24 ⟨v, rfl, ho, hb⟩
    obtain ⟨ya, ma, da, yb, mb, db, yc, mc, dc_, rfl, ho⟩ := kD_shape ho
    have HX := Lib.hid (show kD.In w.heap.size wn24.heap.size wn24 (.agg #[.slice ya ma da, .slice yb mb db, .slice yc mc dc_, .int .i64 (sgK l0 l1 l2 l3 a4).2.2.2.1, .int .i64 (sgK l0 l1 l2 l3 a4).2.2.2.2]) (sgK l0 l1 l2 l3 a4) from Kd.In.mono ho BB.out.size (Nat.le_refl _)); clear ho
    replace HA := Lib.hid (HA.out.on hb)
    replace XD := Lib.hid (XD.out.on hb)
    replace HBk := Lib.hid (HBk.out.on hb)
    replace HC := Lib.hid (HC.out.on hb)
    replace HDb := Lib.hid (HDb.out.on hb)
    replace BB := Lib.hid (BB.out.trans (hb.mono BB.out.size))
    clear hb
    (try go_wp2_with fail)
    clear hHeld
    refine hK.out _ _ ?_ (fun hHeld => ?_)
    · (try dsimp only); exact ⟨kc KK.out BB.out, kc KN.out BB.out⟩
    clear hK K
    (try simp only [Act.put, List.setIfInBounds_toArray, List.set_cons_zero, List.set_cons_succ])
    refine wpAnyH_take (i := 10) (oi := { dst := some 43, op := Op.move (Operand.tmp 53), type := 41, pos := "exact.go:6213", after := #[{ on := 9, ground := Ground.data }], guard := none }) (v := ?_) rfl (by kernel_rfl) (by kernel_rfl) (by kernel_rfl) (fun _ _ _ h => h) (Or.inl ⟨by rfl, ?_⟩) (by assumption) ?_
    rotate_left
    · intro w' hSw; (try dsimp only at hSw); first | (go_simp; done) | (go_simp; with_reducible rfl)
    (try simp only [Act.put, List.setIfInBounds_toArray, List.set_cons_zero, List.set_cons_succ])
    refine wpAnyH_take (i := 11) (oi := { dst := some 54, op := Op.extract (Operand.tmp 43) 0, type := 40, pos := "exact.go:6213", after := #[{ on := 10, ground := Ground.data }], guard := none }) (v := ?_) rfl (by kernel_rfl) (by kernel_rfl) (by kernel_rfl) (fun _ _ _ h => h) (Or.inl ⟨by rfl, ?_⟩) (by assumption) ?_
    rotate_left
    · intro w' hSw; (try dsimp only at hSw); first | (go_simp; done) | (go_simp; with_reducible rfl)
    (try simp only [Act.put, List.setIfInBounds_toArray, List.set_cons_zero, List.set_cons_succ])
    refine wpAnyH_take (i := 12) (oi := { dst := some 55, op := Op.extract (Operand.tmp 43) 1, type := 4, pos := "exact.go:6213", after := #[{ on := 10, ground := Ground.data }, { on := 14, ground := Ground.gcOnly Departure.lateStores }], guard := none }) (v := ?_) rfl (by kernel_rfl) (by kernel_rfl) (by kernel_rfl) (fun _ _ _ h => h) (Or.inl ⟨by rfl, ?_⟩) (by assumption) ?_
    rotate_left
    · intro w' hSw; (try dsimp only at hSw); first | (go_simp; done) | (go_simp; with_reducible rfl)
    (try simp only [Act.put, List.setIfInBounds_toArray, List.set_cons_zero, List.set_cons_succ])
    refine wpAnyH_ready (rs := [14]) (by kernel_rfl) (by simp) ?_
    refine AllReadyH.cons (o := { dst := none, op := Op.store 40 (Operand.tmp 12) (Operand.tmp 54), type := 0, pos := "exact.go:6213", after := #[{ on := 13, ground := Ground.data }, { on := 11, ground := Ground.data }, { on := 9, ground := Ground.chain }, { on := 0, ground := Ground.phase }, { on := 1, ground := Ground.phase }, { on := 2, ground := Ground.phase }, { on := 3, ground := Ground.phase }, { on := 4, ground := Ground.phase }, { on := 5, ground := Ground.phase }, { on := 6, ground := Ground.phase }, { on := 7, ground := Ground.phase }, { on := 8, ground := Ground.phase }, { on := 9, ground := Ground.phase }, { on := 10, ground := Ground.phase }, { on := 11, ground := Ground.phase }, { on := 12, ground := Ground.textOnly Departure.lateStores }, { on := 13, ground := Ground.phase }], guard := none }) rfl (fun K hK => ?_) AllReadyH.nil
    obtain ⟨r0, r1, r2, r3, r4⟩ := cells5 XD.out
    obtain ⟨t0, t1, t2, t3, t4⟩ := froz5 XD.out
    go_simp
    clear hHeld
    refine hK.out _ _ ?_ (fun hHeld => ?_)
    · (try dsimp only); exact ⟨cell_five (kc KK.out BB.out) (by have h1 : p < w.heap.size := cell_lt KK.out; have h2 := HDW.out; omega), cell_five (kc KN.out BB.out) (by have h1 : q < w.heap.size := cell_lt KN.out; have h2 := HDW.out; omega)⟩
    clear hK K
    (try simp only [Act.put, List.setIfInBounds_toArray, List.set_cons_zero, List.set_cons_succ])
    refine wpAnyH_take (i := 15) (oi := { dst := some 13, op := Op.assign (Operand.tmp 55), type := 4, pos := "exact.go:6213", after := #[{ on := 12, ground := Ground.data }, { on := 14, ground := Ground.chain }, { on := 0, ground := Ground.phase }, { on := 1, ground := Ground.phase }, { on := 2, ground := Ground.phase }, { on := 3, ground := Ground.phase }, { on := 4, ground := Ground.phase }, { on := 5, ground := Ground.phase }, { on := 6, ground := Ground.phase }, { on := 7, ground := Ground.phase }, { on := 8, ground := Ground.phase }, { on := 9, ground := Ground.phase }, { on := 10, ground := Ground.phase }, { on := 11, ground := Ground.phase }, { on := 12, ground := Ground.phase }, { on := 13, ground := Ground.phase }, { on := 14, ground := Ground.phase }], guard := none }) (v := ?_) rfl (by kernel_rfl) (by kernel_rfl) (by kernel_rfl) (fun _ _ _ h => h) (Or.inl ⟨by rfl, ?_⟩) (by assumption) ?_
    rotate_left
    · intro w' hSw; (try dsimp only at hSw); first | (go_simp; done) | (go_simp; with_reducible rfl)
    (try simp only [Act.put, List.setIfInBounds_toArray, List.set_cons_zero, List.set_cons_succ])
    refine wpAnyH_done (by kernel_rfl) ?_ _
    exact NoPanic.normal (HQ.out _ _ _ _ _ _ _ _ _ _ _ _ _ gD ma da mb db mc dc_ ya yb yc _ HDW.out XD.out HX.out BB.out)
  refine AllReadyH.cons (o := { dst := some 12, op := Op.alloc 40, type := 0, pos := "exact.go:6213", after := #[], guard := none }) rfl (fun K hK => ?_) AllReadyH.nil
  go_simp
  have hb : Below wd.heap.size wd (wd.alloc (.cells #[.slice none 0 0, .slice none 0 0, .slice none 0 0, .int .i64 0, .int .i64 0] 40)) := (Below.refl _ _).alloc (Nat.le_refl _) _
  obtain ⟨gD, hgD⟩ : ∃ g, g = wd.heap.size := ⟨_, rfl⟩
  have XD := Lib.hid (show Ret.Blk (wd.alloc (.cells #[.slice none 0 0, .slice none 0 0, .slice none 0 0, .int .i64 0, .int .i64 0] 40)) gD (dc (.slice none 0 0) (.slice none 0 0) (.slice none 0 0) 0 0) 40 from by rw [hgD]; exact Ret.Blk.new wd _ _)
  have HDW := Lib.hid (show w.heap.size ≤ gD from by rw [hgD]; exact BB.out.size)
  (first | replace HX := Lib.hid (show kD.In w.heap.size (wd.alloc (.cells #[.slice none 0 0, .slice none 0 0, .slice none 0 0, .int .i64 0, .int .i64 0] 40)).heap.size (wd.alloc (.cells #[.slice none 0 0, .slice none 0 0, .slice none 0 0, .int .i64 0, .int .i64 0] 40)) (.agg #[.slice ya ma da, .slice yb mb db, .slice yc mc dc_, .int .i64 (sgK l0 l1 l2 l3 a4).2.2.2.1, .int .i64 (sgK l0 l1 l2 l3 a4).2.2.2.2]) (sgK l0 l1 l2 l3 a4) from Kd.In.mono (Kd.In.on HX.out hb) (Nat.le_refl _) hb.size) | skip)
  rw [← hgD]
  clear hgD
  replace BB := Lib.hid (BB.out.trans (hb.mono BB.out.size))
  clear hb
  generalize wd.alloc (.cells #[.slice none 0 0, .slice none 0 0, .slice none 0 0, .int .i64 0, .int .i64 0] 40) = wn26 at *
  clear hHeld
  refine hK.out _ _ ?_ (fun hHeld => ?_)
  · (try dsimp only); exact ⟨kc KK.out BB.out, kc KN.out BB.out⟩
  clear hK K
  (try simp only [Act.put, List.setIfInBounds_toArray, List.set_cons_zero, List.set_cons_succ])
  refine wpAnyH_ready (rs := [1]) (by kernel_rfl) (by simp) ?_
  refine AllReadyH.cons (o := { dst := some 45, op := Op.call { callee := Callee.value (Operand.func 12), args := #[Operand.tmp 44], argTypes := #[22] }, type := 25, pos := "exact.go:6213", after := #[{ on := 0, ground := Ground.data }], guard := none }) rfl (fun K hK => ?_) AllReadyH.nil
  go_simp
  refine (toKK _ l0 _ (H0.out.on BB.out) (by omega)).mono ?_
  rintro e wn27 ⟨v, rfl, ho, hb⟩
  obtain ⟨xA, nA, cA, rfl, ho⟩ := kK_shape ho
  have HA := Lib.hid ho.at; clear ho
  replace XD := Lib.hid (XD.out.on hb)
  replace BB := Lib.hid (BB.out.trans (hb.mono BB.out.size))
  clear hb
  (try go_wp2_with fail)
  clear hHeld
  refine hK.out _ _ ?_ (fun hHeld => ?_)
  · (try dsimp only); exact ⟨kc KK.out BB.out, kc KN.out BB.out⟩
  clear hK K
  (try simp only [Act.put, List.setIfInBounds_toArray, List.set_cons_zero, List.set_cons_succ])
  refine wpAnyH_ready (rs := [3]) (by kernel_rfl) (by simp) ?_
  refine AllReadyH.cons (o := { dst := some 47, op := Op.call { callee := Callee.value (Operand.func 17), args := #[Operand.tmp 46], argTypes := #[31] }, type := 34, pos := "exact.go:6213", after := #[{ on := 2, ground := Ground.data }, { on := 1, ground := Ground.chain }], guard := none }) rfl (fun K hK => ?_) AllReadyH.nil
  go_simp
  refine (toNK _ l1 _ (H1.out.on BB.out) (by have := Row.bulk_len l1; omega)).mono ?_
  rintro e wn28 ⟨v, rfl, ho, hb⟩
  obtain ⟨xB, nB, cB, rfl, ho⟩ := kN_shape ho
  have HBk := Lib.hid ho.at; clear ho
  replace XD := Lib.hid (XD.out.on hb)
  replace HA := Lib.hid (HA.out.on hb)
  replace BB := Lib.hid (BB.out.trans (hb.mono BB.out.size))
  clear hb
  (try go_wp2_with fail)
  clear hHeld
  refine hK.out _ _ ?_ (fun hHeld => ?_)
  · (try dsimp only); exact ⟨kc KK.out BB.out, kc KN.out BB.out⟩
  clear hK K
  (try simp only [Act.put, List.setIfInBounds_toArray, List.set_cons_zero, List.set_cons_succ])
  refine wpAnyH_ready (rs := [5]) (by kernel_rfl) (by simp) ?_
  refine AllReadyH.cons (o := { dst := some 49, op := Op.call { callee := Callee.value (Operand.func 17), args := #[Operand.tmp 48], argTypes := #[31] }, type := 34, pos := "exact.go:6213", after := #[{ on := 4, ground := Ground.data }, { on := 3, ground := Ground.chain }], guard := none }) rfl (fun K hK => ?_) AllReadyH.nil
  go_simp
  refine (toNK _ l2 _ (H2.out.on BB.out) (by have := Row.bulk_len l2; omega)).mono ?_
  rintro e wn29 ⟨v, rfl, ho, hb⟩
  obtain ⟨xC, nC, cC, rfl, ho⟩ := kN_shape ho
  have HC := Lib.hid ho.at; clear ho
  replace XD := Lib.hid (XD.out.on hb)
  replace HA := Lib.hid (HA.out.on hb)
  replace HBk := Lib.hid (HBk.out.on hb)
  replace BB := Lib.hid (BB.out.trans (hb.mono BB.out.size))
  clear hb
  (try go_wp2_with fail)
  clear hHeld
  refine hK.out _ _ ?_ (fun hHeld => ?_)
  · (try dsimp only); exact ⟨kc KK.out BB.out, kc KN.out BB.out⟩
  clear hK K
  (try simp only [Act.put, List.setIfInBounds_toArray, List.set_cons_zero, List.set_cons_succ])
  refine wpAnyH_ready (rs := [7]) (by kernel_rfl) (by simp) ?_
  refine AllReadyH.cons (o := { dst := some 51, op := Op.call { callee := Callee.value (Operand.func 21), args := #[Operand.tmp 50], argTypes := #[38] }, type := 38, pos := "exact.go:6213", after := #[{ on := 6, ground := Ground.data }, { on := 5, ground := Ground.chain }], guard := none }) rfl (fun K hK => ?_) AllReadyH.nil
  go_simp
  refine (toB _ l3 _ (H3.out.on BB.out) (by omega)).mono ?_
  rintro e wn30 ⟨v, rfl, ho, hb⟩
  obtain ⟨xD, nD, cD, rfl, ho⟩ := kB_shape ho
  have HDb := Lib.hid ho.at; clear ho
  replace XD := Lib.hid (XD.out.on hb)
  replace HA := Lib.hid (HA.out.on hb)
  replace HBk := Lib.hid (HBk.out.on hb)
  replace HC := Lib.hid (HC.out.on hb)
  replace BB := Lib.hid (BB.out.trans (hb.mono BB.out.size))
  clear hb
  (try go_wp2_with fail)
  clear hHeld
  refine hK.out _ _ ?_ (fun hHeld => ?_)
  · (try dsimp only); exact ⟨kc KK.out BB.out, kc KN.out BB.out⟩
  clear hK K
  (try simp only [Act.put, List.setIfInBounds_toArray, List.set_cons_zero, List.set_cons_succ])
  refine wpAnyH_ready (rs := [9]) (by kernel_rfl) (by simp) ?_
  refine AllReadyH.cons (o := { dst := some 53, op := Op.call { callee := Callee.value (Operand.func 20), args := #[Operand.tmp 45, Operand.tmp 47, Operand.tmp 49, Operand.tmp 51, Operand.tmp 52], argTypes := #[25, 34, 34, 38, 3] }, type := 41, pos := "exact.go:6213", after := #[{ on := 1, ground := Ground.data }, { on := 3, ground := Ground.data }, { on := 5, ground := Ground.data }, { on := 7, ground := Ground.data }, { on := 8, ground := Ground.data }, { on := 7, ground := Ground.chain }], guard := none }) rfl (fun K hK => ?_) AllReadyH.nil
  go_simp
  refine (specSignWithKeyK _ _ _ _ l0 l1 l2 l3 a4 _ HA.out HBk.out HC.out HDb.out (Sl.byt_of_wf N3.out) (by omega) (by omega) (by omega) (by omega)).mono ?_
  rintro e wn31 ⟨v, rfl, ho, hb⟩
  obtain ⟨ya, ma, da, yb, mb, db, yc, mc, dc_, rfl, ho⟩ := kD_shape ho
  have HX := Lib.hid (show kD.In w.heap.size wn31.heap.size wn31 (.agg #[.slice ya ma da, .slice yb mb db, .slice yc mc dc_, .int .i64 (sgK l0 l1 l2 l3 a4).2.2.2.1, .int .i64 (sgK l0 l1 l2 l3 a4).2.2.2.2]) (sgK l0 l1 l2 l3 a4) from Kd.In.mono ho BB.out.size (Nat.le_refl _)); clear ho
  replace XD := Lib.hid (XD.out.on hb)
  replace HA := Lib.hid (HA.out.on hb)
  replace HBk := Lib.hid (HBk.out.on hb)
  replace HC := Lib.hid (HC.out.on hb)
  replace HDb := Lib.hid (HDb.out.on hb)
  replace BB := Lib.hid (BB.out.trans (hb.mono BB.out.size))
  clear hb
  (try go_wp2_with fail)
  clear hHeld
  refine hK.out _ _ ?_ (fun hHeld => ?_)
  · (try dsimp only); exact ⟨kc KK.out BB.out, kc KN.out BB.out⟩
  clear hK K
  (try simp only [Act.put, List.setIfInBounds_toArray, List.set_cons_zero, List.set_cons_succ])
  refine wpAnyH_take (i := 10) (oi := { dst := some 43, op := Op.move (Operand.tmp 53), type := 41, pos := "exact.go:6213", after := #[{ on := 9, ground := Ground.data }], guard := none }) (v := ?_) rfl (by kernel_rfl) (by kernel_rfl) (by kernel_rfl) (fun _ _ _ h => h) (Or.inl ⟨by rfl, ?_⟩) (by assumption) ?_
  rotate_left
  · intro w' hSw; (try dsimp only at hSw); first | (go_simp; done) | (go_simp; with_reducible rfl)
  (try simp only [Act.put, List.setIfInBounds_toArray, List.set_cons_zero, List.set_cons_succ])
  refine wpAnyH_take (i := 11) (oi := { dst := some 54, op := Op.extract (Operand.tmp 43) 0, type := 40, pos := "exact.go:6213", after := #[{ on := 10, ground := Ground.data }], guard := none }) (v := ?_) rfl (by kernel_rfl) (by kernel_rfl) (by kernel_rfl) (fun _ _ _ h => h) (Or.inl ⟨by rfl, ?_⟩) (by assumption) ?_
  rotate_left
  · intro w' hSw; (try dsimp only at hSw); first | (go_simp; done) | (go_simp; with_reducible rfl)
  (try simp only [Act.put, List.setIfInBounds_toArray, List.set_cons_zero, List.set_cons_succ])
  refine wpAnyH_take (i := 12) (oi := { dst := some 55, op := Op.extract (Operand.tmp 43) 1, type := 4, pos := "exact.go:6213", after := #[{ on := 10, ground := Ground.data }, { on := 14, ground := Ground.gcOnly Departure.lateStores }], guard := none }) (v := ?_) rfl (by kernel_rfl) (by kernel_rfl) (by kernel_rfl) (fun _ _ _ h => h) (Or.inl ⟨by rfl, ?_⟩) (by assumption) ?_
  rotate_left
  · intro w' hSw; (try dsimp only at hSw); first | (go_simp; done) | (go_simp; with_reducible rfl)
  (try simp only [Act.put, List.setIfInBounds_toArray, List.set_cons_zero, List.set_cons_succ])
  refine wpAnyH_ready (rs := [14]) (by kernel_rfl) (by simp) ?_
  refine AllReadyH.cons (o := { dst := none, op := Op.store 40 (Operand.tmp 12) (Operand.tmp 54), type := 0, pos := "exact.go:6213", after := #[{ on := 13, ground := Ground.data }, { on := 11, ground := Ground.data }, { on := 9, ground := Ground.chain }, { on := 0, ground := Ground.phase }, { on := 1, ground := Ground.phase }, { on := 2, ground := Ground.phase }, { on := 3, ground := Ground.phase }, { on := 4, ground := Ground.phase }, { on := 5, ground := Ground.phase }, { on := 6, ground := Ground.phase }, { on := 7, ground := Ground.phase }, { on := 8, ground := Ground.phase }, { on := 9, ground := Ground.phase }, { on := 10, ground := Ground.phase }, { on := 11, ground := Ground.phase }, { on := 12, ground := Ground.textOnly Departure.lateStores }, { on := 13, ground := Ground.phase }], guard := none }) rfl (fun K hK => ?_) AllReadyH.nil
  obtain ⟨r0, r1, r2, r3, r4⟩ := cells5 XD.out
  obtain ⟨t0, t1, t2, t3, t4⟩ := froz5 XD.out
  go_simp
  clear hHeld
  refine hK.out _ _ ?_ (fun hHeld => ?_)
  · (try dsimp only); exact ⟨cell_five (kc KK.out BB.out) (by have h1 : p < w.heap.size := cell_lt KK.out; have h2 := HDW.out; omega), cell_five (kc KN.out BB.out) (by have h1 : q < w.heap.size := cell_lt KN.out; have h2 := HDW.out; omega)⟩
  clear hK K
  (try simp only [Act.put, List.setIfInBounds_toArray, List.set_cons_zero, List.set_cons_succ])
  refine wpAnyH_take (i := 15) (oi := { dst := some 13, op := Op.assign (Operand.tmp 55), type := 4, pos := "exact.go:6213", after := #[{ on := 12, ground := Ground.data }, { on := 14, ground := Ground.chain }, { on := 0, ground := Ground.phase }, { on := 1, ground := Ground.phase }, { on := 2, ground := Ground.phase }, { on := 3, ground := Ground.phase }, { on := 4, ground := Ground.phase }, { on := 5, ground := Ground.phase }, { on := 6, ground := Ground.phase }, { on := 7, ground := Ground.phase }, { on := 8, ground := Ground.phase }, { on := 9, ground := Ground.phase }, { on := 10, ground := Ground.phase }, { on := 11, ground := Ground.phase }, { on := 12, ground := Ground.phase }, { on := 13, ground := Ground.phase }, { on := 14, ground := Ground.phase }], guard := none }) (v := ?_) rfl (by kernel_rfl) (by kernel_rfl) (by kernel_rfl) (fun _ _ _ h => h) (Or.inl ⟨by rfl, ?_⟩) (by assumption) ?_
  rotate_left
  · intro w' hSw; (try dsimp only at hSw); first | (go_simp; done) | (go_simp; with_reducible rfl)
  (try simp only [Act.put, List.setIfInBounds_toArray, List.set_cons_zero, List.set_cons_succ])
  refine wpAnyH_done (by kernel_rfl) ?_ _
  exact NoPanic.normal (HQ.out _ _ _ _ _ _ _ _ _ _ _ _ _ gD ma da mb db mc dc_ ya yb yc _ HDW.out XD.out HX.out BB.out)

set_option maxRecDepth 100000 in
set_option maxHeartbeats 4000000 in
theorem specSW {Q : Exit → Act → World → Prop} {v1 v2 v5 v8 v9 v10 v11 v12 v13 v14 v15 v16 v17 v18 v19 v20 v21 v22 v23 v24 v25 v26 v27 v28 v29 v30 v31 v32 v33 v34 v35 v36 v37 v38 v39 v40 v41 v42 v43 v44 v45 v46 v47 v48 v49 v50 v51 v52 v53 v54 v55 v56 v57 v58 v59 v60 v61 v62 v63 v64 v65 v66 v67 v68 v69 v70 v71 v72 v73 v74 v75 v76 v77 v78 v79 v80 v81 v82 v83 v84 v85 v86 v87 v88 v89 v90 v91 v92 v93 v94 v95 v96 v97 v98 v99 v100 v101 v102 v103 v104 v105 v106 v107 v108 v109 v110 v111 v112 v113 v114 v115 v116 v117 v118 v119 v120 v121 v122 v123 v124 v125 v126 v127 v128 v129 v130 v131 v132 v133 v134 v135 v136 v137 v138 v139 v140 v141 v142 v143 v144 v145 v146 v147 v148 v149 v150 v151 v152 v153 v154 v155 v156 v157 v158 v159 v160 v161 v162 v163 v164 v165 v166 v167 : Value} {w : World} {p q nl cl nk ck nn cn nb cb : Nat} {xl xk xn xb : Option Addr} {l0 : Kt} {l1 l2 : List ByteArray} {l3 : List Int} {a4 : Int} (H0 : Hid (kK.At w (.slice xl nl cl) l0)) (H1 : Hid (kN.At w (.agg #[.slice xk nk ck]) l1)) (H2 : Hid (kN.At w (.agg #[.slice xn nn cn]) l2)) (H3 : Hid (kB.At w (.slice xb nb cb) l3)) (N0 : Hid (∀ t ∈ l0, t.1.length ≤ 9223372036854775807 ∧ (∀ x ∈ t.1, x.size ≤ maxLen) ∧ (Lit.int .i64 t.2).wf = true)) (N3 : Hid (∀ x ∈ l3, (Lit.int .u8 x).wf = true)) (Z0 : bulkT l0 ≤ 1048576) (Z1 : bulk l1 ≤ 1048576) (Z2 : bulk l2 ≤ 1048576) (Z3 : l3.length ≤ 1048576) (KK : Hid (w.cell? ⟨p, 0, none⟩ = some (.slice xk nk ck))) (KN : Hid (w.cell? ⟨q, 0, none⟩ = some (.slice xn nn cn)))
    (hQ : ∀ (u43 u44 u45 u46 u47 u48 u49 u50 u51 u52 u53 u54 u55 : Value) (gD ma da mb db mc dc_ : Nat) (ya yb yc : Option Addr) (w2 : World), Below w.heap.size w w2 → kD.In w.heap.size w2.heap.size w2 (.agg #[.slice ya ma da, .slice yb mb db, .slice yc mc dc_, .int .i64 (sgK l0 l1 l2 l3 a4).2.2.2.1, .int .i64 (sgK l0 l1 l2 l3 a4).2.2.2.2]) (sgK l0 l1 l2 l3 a4) → Ret.Blk w2 gD #[.slice ya ma da, .slice yb mb db, .slice yc mc dc_, .int .i64 (sgK l0 l1 l2 l3 a4).2.2.2.1, .int .i64 (sgK l0 l1 l2 l3 a4).2.2.2.2] 40 → w.heap.size ≤ gD → gD < w2.heap.size → Q .normal ⟨#[.slice xl nl cl, v1, v2, .slice xb nb cb, .int .i64 a4, v5, .pointer (some ⟨p, 0, none⟩), .pointer (some ⟨q, 0, none⟩), v8, v9, v10, v11, .pointer (some ⟨gD, 0, none⟩), .bool (sgOk l0 l1 l2 l3 a4), v14, v15, v16, v17, v18, v19, v20, v21, v22, v23, v24, v25, v26, v27, v28, v29, v30, v31, v32, v33, v34, v35, v36, v37, v38, v39, v40, v41, v42, u43, u44, u45, u46, u47, u48, u49, u50, u51, u52, u53, u54, u55, v56, v57, v58, v59, v60, v61, v62, v63, v64, v65, v66, v67, v68, v69, v70, v71, v72, v73, v74, v75, v76, v77, v78, v79, v80, v81, v82, v83, v84, v85, v86, v87, v88, v89, v90, v91, v92, v93, v94, v95, v96, v97, v98, v99, v100, v101, v102, v103, v104, v105, v106, v107, v108, v109, v110, v111, v112, v113, v114, v115, v116, v117, v118, v119, v120, v121, v122, v123, v124, v125, v126, v127, v128, v129, v130, v131, v132, v133, v134, v135, v136, v137, v138, v139, v140, v141, v142, v143, v144, v145, v146, v147, v148, v149, v150, v151, v152, v153, v154, v155, v156, v157, v158, v159, v160, v161, v162, v163, v164, v165, v166, v167], []⟩ w2) :
    (Code.region 13 #[{ dst := some 44, op := Op.move (Operand.tmp 0), type := 22, pos := "exact.go:6213", after := #[], guard := none },
      { dst := some 45, op := Op.call { callee := Callee.value (Operand.func 12), args := #[Operand.tmp 44], argTypes := #[22] }, type := 25, pos := "exact.go:6213", after := #[{ on := 0, ground := Ground.data }], guard := none },
      { dst := some 46, op := Op.load 31 (Operand.tmp 6), type := 31, pos := "exact.go:6213", after := #[], guard := none },
      { dst := some 47, op := Op.call { callee := Callee.value (Operand.func 17), args := #[Operand.tmp 46], argTypes := #[31] }, type := 34, pos := "exact.go:6213", after := #[{ on := 2, ground := Ground.data }, { on := 1, ground := Ground.chain }], guard := none },
      { dst := some 48, op := Op.load 31 (Operand.tmp 7), type := 31, pos := "exact.go:6213", after := #[], guard := none },
      { dst := some 49, op := Op.call { callee := Callee.value (Operand.func 17), args := #[Operand.tmp 48], argTypes := #[31] }, type := 34, pos := "exact.go:6213", after := #[{ on := 4, ground := Ground.data }, { on := 3, ground := Ground.chain }], guard := none },
      { dst := some 50, op := Op.move (Operand.tmp 3), type := 38, pos := "exact.go:6213", after := #[], guard := none },
      { dst := some 51, op := Op.call { callee := Callee.value (Operand.func 21), args := #[Operand.tmp 50], argTypes := #[38] }, type := 38, pos := "exact.go:6213", after := #[{ on := 6, ground := Ground.data }, { on := 5, ground := Ground.chain }], guard := none },
      { dst := some 52, op := Op.move (Operand.tmp 4), type := 3, pos := "exact.go:6213", after := #[], guard := none },
      { dst := some 53, op := Op.call { callee := Callee.value (Operand.func 20), args := #[Operand.tmp 45, Operand.tmp 47, Operand.tmp 49, Operand.tmp 51, Operand.tmp 52], argTypes := #[25, 34, 34, 38, 3] }, type := 41, pos := "exact.go:6213", after := #[{ on := 1, ground := Ground.data }, { on := 3, ground := Ground.data }, { on := 5, ground := Ground.data }, { on := 7, ground := Ground.data }, { on := 8, ground := Ground.data }, { on := 7, ground := Ground.chain }], guard := none },
      { dst := some 43, op := Op.move (Operand.tmp 53), type := 41, pos := "exact.go:6213", after := #[{ on := 9, ground := Ground.data }], guard := none },
      { dst := some 54, op := Op.extract (Operand.tmp 43) 0, type := 40, pos := "exact.go:6213", after := #[{ on := 10, ground := Ground.data }], guard := none },
      { dst := some 55, op := Op.extract (Operand.tmp 43) 1, type := 4, pos := "exact.go:6213", after := #[{ on := 10, ground := Ground.data }, { on := 14, ground := Ground.gcOnly Departure.lateStores }], guard := none },
      { dst := some 12, op := Op.alloc 40, type := 0, pos := "exact.go:6213", after := #[], guard := none },
      { dst := none, op := Op.store 40 (Operand.tmp 12) (Operand.tmp 54), type := 0, pos := "exact.go:6213", after := #[{ on := 13, ground := Ground.data }, { on := 11, ground := Ground.data }, { on := 9, ground := Ground.chain }, { on := 0, ground := Ground.phase }, { on := 1, ground := Ground.phase }, { on := 2, ground := Ground.phase }, { on := 3, ground := Ground.phase }, { on := 4, ground := Ground.phase }, { on := 5, ground := Ground.phase }, { on := 6, ground := Ground.phase }, { on := 7, ground := Ground.phase }, { on := 8, ground := Ground.phase }, { on := 9, ground := Ground.phase }, { on := 10, ground := Ground.phase }, { on := 11, ground := Ground.phase }, { on := 12, ground := Ground.textOnly Departure.lateStores }, { on := 13, ground := Ground.phase }], guard := none },
      { dst := some 13, op := Op.assign (Operand.tmp 55), type := 4, pos := "exact.go:6213", after := #[{ on := 12, ground := Ground.data }, { on := 14, ground := Ground.chain }, { on := 0, ground := Ground.phase }, { on := 1, ground := Ground.phase }, { on := 2, ground := Ground.phase }, { on := 3, ground := Ground.phase }, { on := 4, ground := Ground.phase }, { on := 5, ground := Ground.phase }, { on := 6, ground := Ground.phase }, { on := 7, ground := Ground.phase }, { on := 8, ground := Ground.phase }, { on := 9, ground := Ground.phase }, { on := 10, ground := Ground.phase }, { on := 11, ground := Ground.phase }, { on := 12, ground := Ground.phase }, { on := 13, ground := Ground.phase }, { on := 14, ground := Ground.phase }], guard := none }] true).wp Try.prog Q ⟨#[.slice xl nl cl, v1, v2, .slice xb nb cb, .int .i64 a4, v5, .pointer (some ⟨p, 0, none⟩), .pointer (some ⟨q, 0, none⟩), v8, v9, v10, v11, v12, v13, v14, v15, v16, v17, v18, v19, v20, v21, v22, v23, v24, v25, v26, v27, v28, v29, v30, v31, v32, v33, v34, v35, v36, v37, v38, v39, v40, v41, v42, v43, v44, v45, v46, v47, v48, v49, v50, v51, v52, v53, v54, v55, v56, v57, v58, v59, v60, v61, v62, v63, v64, v65, v66, v67, v68, v69, v70, v71, v72, v73, v74, v75, v76, v77, v78, v79, v80, v81, v82, v83, v84, v85, v86, v87, v88, v89, v90, v91, v92, v93, v94, v95, v96, v97, v98, v99, v100, v101, v102, v103, v104, v105, v106, v107, v108, v109, v110, v111, v112, v113, v114, v115, v116, v117, v118, v119, v120, v121, v122, v123, v124, v125, v126, v127, v128, v129, v130, v131, v132, v133, v134, v135, v136, v137, v138, v139, v140, v141, v142, v143, v144, v145, v146, v147, v148, v149, v150, v151, v152, v153, v154, v155, v156, v157, v158, v159, v160, v161, v162, v163, v164, v165, v166, v167], []⟩ w := by
  refine specSW0 H0 H1 H2 H3 N0 N3 Z0 Z1 Z2 Z3 KK KN ?_
  intro u43 u44 u45 u46 u47 u48 u49 u50 u51 u52 u53 u54 u55 gD ma da mb db mc dc_ ya yb yc wx hgd hxd hin hb
  obtain ⟨h1, h2, h3, h4⟩ := five_facts hgd hxd hin hb
  exact hQ _ _ _ _ _ _ _ _ _ _ _ _ _ _ _ _ _ _ _ _ _ _ _ _ h1 h2 h3 hgd h4

set_option maxRecDepth 100000 in
set_option maxHeartbeats 4000000 in
theorem implSW0 {Q : Exit → Act → World → Prop} {v1 v2 v5 v8 v9 v10 v11 v12 v13 v14 v15 v16 v17 v18 v19 v20 v21 v22 v23 v24 v25 v26 v27 v28 v29 v30 v31 v32 v33 v34 v35 v36 v37 v38 v39 v40 v41 v42 v43 v44 v45 v46 v47 v48 v49 v50 v51 v52 v53 v54 v55 v56 v57 v58 v59 v60 v61 v62 v63 v64 v65 v66 v67 v68 v69 v70 v71 v72 v73 v74 v75 v76 v77 v78 v79 v80 v81 v82 v83 v84 v85 v86 v87 v88 v89 v90 v91 v92 v93 v94 v95 v96 v97 v98 v99 v100 v101 v102 v103 v104 v105 v106 v107 v108 v109 v110 v111 v112 v113 v114 v115 v116 v117 v118 v119 v120 v121 v122 v123 v124 v125 v126 v127 v128 v129 v130 v131 v132 v133 v134 v135 v136 v137 v138 v139 v140 v141 v142 v143 v144 v145 v146 v147 v148 v149 v150 v151 v152 v153 v154 v155 v156 v157 v158 v159 v160 v161 v162 v163 v164 v165 v166 v167 : Value} {w : World} {p q nl cl nk ck nn cn nb cb : Nat} {xl xk xn xb : Option Addr} {l0 : Kt} {l1 l2 : List ByteArray} {l3 : List Int} {a4 : Int} (H0 : Hid (kK.At w (.slice xl nl cl) l0)) (H1 : Hid (kN.At w (.agg #[.slice xk nk ck]) l1)) (H2 : Hid (kN.At w (.agg #[.slice xn nn cn]) l2)) (H3 : Hid (kB.At w (.slice xb nb cb) l3)) (N0 : Hid (∀ t ∈ l0, t.1.length ≤ 9223372036854775807 ∧ (∀ x ∈ t.1, x.size ≤ maxLen) ∧ (Lit.int .i64 t.2).wf = true)) (N3 : Hid (∀ x ∈ l3, (Lit.int .u8 x).wf = true)) (Z0 : bulkT l0 ≤ 1048576) (Z1 : bulk l1 ≤ 1048576) (Z2 : bulk l2 ≤ 1048576) (Z3 : l3.length ≤ 1048576) (KK : Hid (w.cell? ⟨p, 0, none⟩ = some (.slice xk nk ck))) (KN : Hid (w.cell? ⟨q, 0, none⟩ = some (.slice xn nn cn)))
    (hQ : ∀ (u138 u139 u140 u141 u142 u143 u144 u145 u146 u147 u148 u149 u150 : Value) (gD ma da mb db mc dc_ : Nat) (ya yb yc : Option Addr)  (wx : World), w.heap.size ≤ gD → Ret.Blk wx gD (dc (.slice none 0 0) (.slice none 0 0) (.slice none 0 0) 0 0) 40 → kD.In w.heap.size wx.heap.size wx (.agg #[.slice ya ma da, .slice yb mb db, .slice yc mc dc_, .int .i64 (sgK l0 l1 l2 l3 a4).2.2.2.1, .int .i64 (sgK l0 l1 l2 l3 a4).2.2.2.2]) (sgK l0 l1 l2 l3 a4) → Below w.heap.size w wx → Q .normal ⟨#[.slice xl nl cl, v1, v2, .slice xb nb cb, .int .i64 a4, v5, .pointer (some ⟨p, 0, none⟩), .pointer (some ⟨q, 0, none⟩), v8, v9, v10, v11, v12, v13, v14, v15, v16, v17, v18, v19, v20, v21, v22, .pointer (some ⟨gD, 0, none⟩), .bool (sgOk l0 l1 l2 l3 a4), v25, v26, v27, v28, v29, v30, v31, v32, v33, v34, v35, v36, v37, v38, v39, v40, v41, v42, v43, v44, v45, v46, v47, v48, v49, v50, v51, v52, v53, v54, v55, v56, v57, v58, v59, v60, v61, v62, v63, v64, v65, v66, v67, v68, v69, v70, v71, v72, v73, v74, v75, v76, v77, v78, v79, v80, v81, v82, v83, v84, v85, v86, v87, v88, v89, v90, v91, v92, v93, v94, v95, v96, v97, v98, v99, v100, v101, v102, v103, v104, v105, v106, v107, v108, v109, v110, v111, v112, v113, v114, v115, v116, v117, v118, v119, v120, v121, v122, v123, v124, v125, v126, v127, v128, v129, v130, v131, v132, v133, v134, v135, v136, v137, u138, u139, u140, u141, u142, u143, u144, u145, u146, u147, u148, u149, u150, v151, v152, v153, v154, v155, v156, v157, v158, v159, v160, v161, v162, v163, v164, v165, v166, v167], []⟩ ((((((wx).setCell ⟨gD, 0, none⟩ (.slice ya ma da)).setCell ⟨gD, 1, none⟩ (.slice yb mb db)).setCell ⟨gD, 2, none⟩ (.slice yc mc dc_)).setCell ⟨gD, 3, none⟩ (.int .i64 (sgK l0 l1 l2 l3 a4).2.2.2.1)).setCell ⟨gD, 4, none⟩ (.int .i64 (sgK l0 l1 l2 l3 a4).2.2.2.2))) :
    (Code.region 44 #[{ dst := some 139, op := Op.move (Operand.tmp 0), type := 22, pos := "exact.go:6252", after := #[], guard := none },
      { dst := some 140, op := Op.call { callee := Callee.value (Operand.func 12), args := #[Operand.tmp 139], argTypes := #[22] }, type := 25, pos := "exact.go:6252", after := #[{ on := 0, ground := Ground.data }], guard := none },
      { dst := some 141, op := Op.load 31 (Operand.tmp 6), type := 31, pos := "exact.go:6252", after := #[], guard := none },
      { dst := some 142, op := Op.call { callee := Callee.value (Operand.func 17), args := #[Operand.tmp 141], argTypes := #[31] }, type := 34, pos := "exact.go:6252", after := #[{ on := 2, ground := Ground.data }, { on := 1, ground := Ground.chain }], guard := none },
      { dst := some 143, op := Op.load 31 (Operand.tmp 7), type := 31, pos := "exact.go:6252", after := #[], guard := none },
      { dst := some 144, op := Op.call { callee := Callee.value (Operand.func 17), args := #[Operand.tmp 143], argTypes := #[31] }, type := 34, pos := "exact.go:6252", after := #[{ on := 4, ground := Ground.data }, { on := 3, ground := Ground.chain }], guard := none },
      { dst := some 145, op := Op.move (Operand.tmp 3), type := 38, pos := "exact.go:6252", after := #[], guard := none },
      { dst := some 146, op := Op.call { callee := Callee.value (Operand.func 21), args := #[Operand.tmp 145], argTypes := #[38] }, type := 38, pos := "exact.go:6252", after := #[{ on := 6, ground := Ground.data }, { on := 5, ground := Ground.chain }], guard := none },
      { dst := some 147, op := Op.move (Operand.tmp 4), type := 3, pos := "exact.go:6252", after := #[], guard := none },
      { dst := some 148, op := Op.call { callee := Callee.value (Operand.func 22), args := #[Operand.tmp 140, Operand.tmp 142, Operand.tmp 144, Operand.tmp 146, Operand.tmp 147], argTypes := #[25, 34, 34, 38, 3] }, type := 41, pos := "exact.go:6252", after := #[{ on := 1, ground := Ground.data }, { on := 3, ground := Ground.data }, { on := 5, ground := Ground.data }, { on := 7, ground := Ground.data }, { on := 8, ground := Ground.data }, { on := 7, ground := Ground.chain }], guard := none },
      { dst := some 138, op := Op.move (Operand.tmp 148), type := 41, pos := "exact.go:6252", after := #[{ on := 9, ground := Ground.data }], guard := none },
      { dst := some 149, op := Op.extract (Operand.tmp 138) 0, type := 40, pos := "exact.go:6252", after := #[{ on := 10, ground := Ground.data }], guard := none },
      { dst := some 150, op := Op.extract (Operand.tmp 138) 1, type := 4, pos := "exact.go:6252", after := #[{ on := 10, ground := Ground.data }, { on := 14, ground := Ground.gcOnly Departure.lateStores }], guard := none },
      { dst := some 23, op := Op.alloc 40, type := 0, pos := "exact.go:6252", after := #[], guard := none },
      { dst := none, op := Op.store 40 (Operand.tmp 23) (Operand.tmp 149), type := 0, pos := "exact.go:6252", after := #[{ on := 13, ground := Ground.data }, { on := 11, ground := Ground.data }, { on := 9, ground := Ground.chain }, { on := 0, ground := Ground.phase }, { on := 1, ground := Ground.phase }, { on := 2, ground := Ground.phase }, { on := 3, ground := Ground.phase }, { on := 4, ground := Ground.phase }, { on := 5, ground := Ground.phase }, { on := 6, ground := Ground.phase }, { on := 7, ground := Ground.phase }, { on := 8, ground := Ground.phase }, { on := 9, ground := Ground.phase }, { on := 10, ground := Ground.phase }, { on := 11, ground := Ground.phase }, { on := 12, ground := Ground.textOnly Departure.lateStores }, { on := 13, ground := Ground.phase }], guard := none },
      { dst := some 24, op := Op.assign (Operand.tmp 150), type := 4, pos := "exact.go:6252", after := #[{ on := 12, ground := Ground.data }, { on := 14, ground := Ground.chain }, { on := 0, ground := Ground.phase }, { on := 1, ground := Ground.phase }, { on := 2, ground := Ground.phase }, { on := 3, ground := Ground.phase }, { on := 4, ground := Ground.phase }, { on := 5, ground := Ground.phase }, { on := 6, ground := Ground.phase }, { on := 7, ground := Ground.phase }, { on := 8, ground := Ground.phase }, { on := 9, ground := Ground.phase }, { on := 10, ground := Ground.phase }, { on := 11, ground := Ground.phase }, { on := 12, ground := Ground.phase }, { on := 13, ground := Ground.phase }, { on := 14, ground := Ground.phase }], guard := none }] true).wp Try.prog Q ⟨#[.slice xl nl cl, v1, v2, .slice xb nb cb, .int .i64 a4, v5, .pointer (some ⟨p, 0, none⟩), .pointer (some ⟨q, 0, none⟩), v8, v9, v10, v11, v12, v13, v14, v15, v16, v17, v18, v19, v20, v21, v22, v23, v24, v25, v26, v27, v28, v29, v30, v31, v32, v33, v34, v35, v36, v37, v38, v39, v40, v41, v42, v43, v44, v45, v46, v47, v48, v49, v50, v51, v52, v53, v54, v55, v56, v57, v58, v59, v60, v61, v62, v63, v64, v65, v66, v67, v68, v69, v70, v71, v72, v73, v74, v75, v76, v77, v78, v79, v80, v81, v82, v83, v84, v85, v86, v87, v88, v89, v90, v91, v92, v93, v94, v95, v96, v97, v98, v99, v100, v101, v102, v103, v104, v105, v106, v107, v108, v109, v110, v111, v112, v113, v114, v115, v116, v117, v118, v119, v120, v121, v122, v123, v124, v125, v126, v127, v128, v129, v130, v131, v132, v133, v134, v135, v136, v137, v138, v139, v140, v141, v142, v143, v144, v145, v146, v147, v148, v149, v150, v151, v152, v153, v154, v155, v156, v157, v158, v159, v160, v161, v162, v163, v164, v165, v166, v167], []⟩ w := by
  have HQ := Lib.hid hQ; clear hQ
  have hdr : Below w.heap.size w w.drew := (Below.refl _ _).drew
  have BB := Lib.hid hdr
  refine wp_region_noPanic ?_
  refine wp_region_held_drew (S := (fun w' => w'.cell? ⟨p, 0, none⟩ = some (.slice xk nk ck) ∧ w'.cell? ⟨q, 0, none⟩ = some (.slice xn nn cn))) (by kernel_rfl) ?_ (fun hHeld => ?_)
  · exact ⟨kc KK.out BB.out, kc KN.out BB.out⟩
  clear hdr
  generalize w.drew = wd at *
  refine wpAnyH_take (i := 0) (oi := { dst := some 139, op := Op.move (Operand.tmp 0), type := 22, pos := "exact.go:6252", after := #[], guard := none }) (v := ?_) rfl (by kernel_rfl) (by kernel_rfl) (by kernel_rfl) (fun _ _ _ h => h) (Or.inl ⟨by rfl, ?_⟩) (by assumption) ?_
  rotate_left
  · intro w' hSw; (try dsimp only at hSw); first | (go_simp; done) | (go_simp; with_reducible rfl)
  (try simp only [Act.put, List.setIfInBounds_toArray, List.set_cons_zero, List.set_cons_succ])
  refine wpAnyH_take (i := 2) (oi := { dst := some 141, op := Op.load 31 (Operand.tmp 6), type := 31, pos := "exact.go:6252", after := #[], guard := none }) (v := ?_) rfl (by kernel_rfl) (by kernel_rfl) (by kernel_rfl) (fun _ _ _ h => h) (Or.inl ⟨by rfl, ?_⟩) (by assumption) ?_
  rotate_left
  · intro w' hSw; (try dsimp only at hSw); first | (go_simp; done) | (go_simp; with_reducible rfl)
  (try simp only [Act.put, List.setIfInBounds_toArray, List.set_cons_zero, List.set_cons_succ])
  refine wpAnyH_take (i := 4) (oi := { dst := some 143, op := Op.load 31 (Operand.tmp 7), type := 31, pos := "exact.go:6252", after := #[], guard := none }) (v := ?_) rfl (by kernel_rfl) (by kernel_rfl) (by kernel_rfl) (fun _ _ _ h => h) (Or.inl ⟨by rfl, ?_⟩) (by assumption) ?_
  rotate_left
  · intro w' hSw; (try dsimp only at hSw); first | (go_simp; done) | (go_simp; with_reducible rfl)
  (try simp only [Act.put, List.setIfInBounds_toArray, List.set_cons_zero, List.set_cons_succ])
  refine wpAnyH_take (i := 6) (oi := { dst := some 145, op := Op.move (Operand.tmp 3), type := 38, pos := "exact.go:6252", after := #[], guard := none }) (v := ?_) rfl (by kernel_rfl) (by kernel_rfl) (by kernel_rfl) (fun _ _ _ h => h) (Or.inl ⟨by rfl, ?_⟩) (by assumption) ?_
  rotate_left
  · intro w' hSw; (try dsimp only at hSw); first | (go_simp; done) | (go_simp; with_reducible rfl)
  (try simp only [Act.put, List.setIfInBounds_toArray, List.set_cons_zero, List.set_cons_succ])
  refine wpAnyH_take (i := 8) (oi := { dst := some 147, op := Op.move (Operand.tmp 4), type := 3, pos := "exact.go:6252", after := #[], guard := none }) (v := ?_) rfl (by kernel_rfl) (by kernel_rfl) (by kernel_rfl) (fun _ _ _ h => h) (Or.inl ⟨by rfl, ?_⟩) (by assumption) ?_
  rotate_left
  · intro w' hSw; (try dsimp only at hSw); first | (go_simp; done) | (go_simp; with_reducible rfl)
  (try simp only [Act.put, List.setIfInBounds_toArray, List.set_cons_zero, List.set_cons_succ])
  refine wpAnyH_ready (rs := [1, 13]) (by kernel_rfl) (by simp) ?_
  refine AllReadyH.cons (o := { dst := some 140, op := Op.call { callee := Callee.value (Operand.func 12), args := #[Operand.tmp 139], argTypes := #[22] }, type := 25, pos := "exact.go:6252", after := #[{ on := 0, ground := Ground.data }], guard := none }) rfl (fun K hK => ?_) ?_
  ·
    go_simp
    refine (toKK _ l0 _ (H0.out.on BB.out) (by omega)).mono ?_
    rintro e wn1 ⟨v, rfl, ho, hb⟩
    obtain ⟨xA, nA, cA, rfl, ho⟩ := kK_shape ho
    have HA := Lib.hid ho.at; clear ho
    replace BB := Lib.hid (BB.out.trans (hb.mono BB.out.size))
    clear hb
    (try go_wp2_with fail)
    clear hHeld
    refine hK.out _ _ ?_ (fun hHeld => ?_)
    · (try dsimp only); exact ⟨kc KK.out BB.out, kc KN.out BB.out⟩
    clear hK K
    (try simp only [Act.put, List.setIfInBounds_toArray, List.set_cons_zero, List.set_cons_succ])
    refine wpAnyH_ready (rs := [3, 13]) (by kernel_rfl) (by simp) ?_
    refine AllReadyH.cons (o := { dst := some 142, op := Op.call { callee := Callee.value (Operand.func 17), args := #[Operand.tmp 141], argTypes := #[31] }, type := 34, pos := "exact.go:6252", after := #[{ on := 2, ground := Ground.data }, { on := 1, ground := Ground.chain }], guard := none }) rfl (fun K hK => ?_) ?_
    ·
      go_simp
      refine (toNK _ l1 _ (H1.out.on BB.out) (by have := Row.bulk_len l1; omega)).mono ?_
      rintro e wn2 ⟨v, rfl, ho, hb⟩
      obtain ⟨xB, nB, cB, rfl, ho⟩ := kN_shape ho
      have HBk := Lib.hid ho.at; clear ho
      replace HA := Lib.hid (HA.out.on hb)
      replace BB := Lib.hid (BB.out.trans (hb.mono BB.out.size))
      clear hb
      (try go_wp2_with fail)
      clear hHeld
      refine hK.out _ _ ?_ (fun hHeld => ?_)
      · (try dsimp only); exact ⟨kc KK.out BB.out, kc KN.out BB.out⟩
      clear hK K
      (try simp only [Act.put, List.setIfInBounds_toArray, List.set_cons_zero, List.set_cons_succ])
      refine wpAnyH_ready (rs := [5, 13]) (by kernel_rfl) (by simp) ?_
      refine AllReadyH.cons (o := { dst := some 144, op := Op.call { callee := Callee.value (Operand.func 17), args := #[Operand.tmp 143], argTypes := #[31] }, type := 34, pos := "exact.go:6252", after := #[{ on := 4, ground := Ground.data }, { on := 3, ground := Ground.chain }], guard := none }) rfl (fun K hK => ?_) ?_
      ·
        go_simp
        refine (toNK _ l2 _ (H2.out.on BB.out) (by have := Row.bulk_len l2; omega)).mono ?_
        rintro e wn3 ⟨v, rfl, ho, hb⟩
        obtain ⟨xC, nC, cC, rfl, ho⟩ := kN_shape ho
        have HC := Lib.hid ho.at; clear ho
        replace HA := Lib.hid (HA.out.on hb)
        replace HBk := Lib.hid (HBk.out.on hb)
        replace BB := Lib.hid (BB.out.trans (hb.mono BB.out.size))
        clear hb
        (try go_wp2_with fail)
        clear hHeld
        refine hK.out _ _ ?_ (fun hHeld => ?_)
        · (try dsimp only); exact ⟨kc KK.out BB.out, kc KN.out BB.out⟩
        clear hK K
        (try simp only [Act.put, List.setIfInBounds_toArray, List.set_cons_zero, List.set_cons_succ])
        refine wpAnyH_ready (rs := [7, 13]) (by kernel_rfl) (by simp) ?_
        refine AllReadyH.cons (o := { dst := some 146, op := Op.call { callee := Callee.value (Operand.func 21), args := #[Operand.tmp 145], argTypes := #[38] }, type := 38, pos := "exact.go:6252", after := #[{ on := 6, ground := Ground.data }, { on := 5, ground := Ground.chain }], guard := none }) rfl (fun K hK => ?_) ?_
        ·
          go_simp
          refine (toB _ l3 _ (H3.out.on BB.out) (by omega)).mono ?_
          rintro e wn4 ⟨v, rfl, ho, hb⟩
          obtain ⟨xD, nD, cD, rfl, ho⟩ := kB_shape ho
          have HDb := Lib.hid ho.at; clear ho
          replace HA := Lib.hid (HA.out.on hb)
          replace HBk := Lib.hid (HBk.out.on hb)
          replace HC := Lib.hid (HC.out.on hb)
          replace BB := Lib.hid (BB.out.trans (hb.mono BB.out.size))
          clear hb
          (try go_wp2_with fail)
          clear hHeld
          refine hK.out _ _ ?_ (fun hHeld => ?_)
          · (try dsimp only); exact ⟨kc KK.out BB.out, kc KN.out BB.out⟩
          clear hK K
          (try simp only [Act.put, List.setIfInBounds_toArray, List.set_cons_zero, List.set_cons_succ])
          refine wpAnyH_ready (rs := [9, 13]) (by kernel_rfl) (by simp) ?_
          refine AllReadyH.cons (o := { dst := some 148, op := Op.call { callee := Callee.value (Operand.func 22), args := #[Operand.tmp 140, Operand.tmp 142, Operand.tmp 144, Operand.tmp 146, Operand.tmp 147], argTypes := #[25, 34, 34, 38, 3] }, type := 41, pos := "exact.go:6252", after := #[{ on := 1, ground := Ground.data }, { on := 3, ground := Ground.data }, { on := 5, ground := Ground.data }, { on := 7, ground := Ground.data }, { on := 8, ground := Ground.data }, { on := 7, ground := Ground.chain }], guard := none }) rfl (fun K hK => ?_) ?_
          ·
            go_simp
            refine (implSignWithKeyK _ _ _ _ l0 l1 l2 l3 a4 _ HA.out HBk.out HC.out HDb.out (Sl.byt_of_wf N3.out) (by omega) (by omega) (by omega) (by omega)).mono ?_
            rintro e wn5 ⟨v, rfl, ho, hb⟩
            obtain ⟨ya, ma, da, yb, mb, db, yc, mc, dc_, rfl, ho⟩ := kD_shape ho
            have HX := Lib.hid (show kD.In w.heap.size wn5.heap.size wn5 (.agg #[.slice ya ma da, .slice yb mb db, .slice yc mc dc_, .int .i64 (sgK l0 l1 l2 l3 a4).2.2.2.1, .int .i64 (sgK l0 l1 l2 l3 a4).2.2.2.2]) (sgK l0 l1 l2 l3 a4) from Kd.In.mono ho BB.out.size (Nat.le_refl _)); clear ho
            replace HA := Lib.hid (HA.out.on hb)
            replace HBk := Lib.hid (HBk.out.on hb)
            replace HC := Lib.hid (HC.out.on hb)
            replace HDb := Lib.hid (HDb.out.on hb)
            replace BB := Lib.hid (BB.out.trans (hb.mono BB.out.size))
            clear hb
            (try go_wp2_with fail)
            clear hHeld
            refine hK.out _ _ ?_ (fun hHeld => ?_)
            · (try dsimp only); exact ⟨kc KK.out BB.out, kc KN.out BB.out⟩
            clear hK K
            (try simp only [Act.put, List.setIfInBounds_toArray, List.set_cons_zero, List.set_cons_succ])
            refine wpAnyH_take (i := 10) (oi := { dst := some 138, op := Op.move (Operand.tmp 148), type := 41, pos := "exact.go:6252", after := #[{ on := 9, ground := Ground.data }], guard := none }) (v := ?_) rfl (by kernel_rfl) (by kernel_rfl) (by kernel_rfl) (fun _ _ _ h => h) (Or.inl ⟨by rfl, ?_⟩) (by assumption) ?_
            rotate_left
            · intro w' hSw; (try dsimp only at hSw); first | (go_simp; done) | (go_simp; with_reducible rfl)
            (try simp only [Act.put, List.setIfInBounds_toArray, List.set_cons_zero, List.set_cons_succ])
            refine wpAnyH_take (i := 11) (oi := { dst := some 149, op := Op.extract (Operand.tmp 138) 0, type := 40, pos := "exact.go:6252", after := #[{ on := 10, ground := Ground.data }], guard := none }) (v := ?_) rfl (by kernel_rfl) (by kernel_rfl) (by kernel_rfl) (fun _ _ _ h => h) (Or.inl ⟨by rfl, ?_⟩) (by assumption) ?_
            rotate_left
            · intro w' hSw; (try dsimp only at hSw); first | (go_simp; done) | (go_simp; with_reducible rfl)
            (try simp only [Act.put, List.setIfInBounds_toArray, List.set_cons_zero, List.set_cons_succ])
            refine wpAnyH_take (i := 12) (oi := { dst := some 150, op := Op.extract (Operand.tmp 138) 1, type := 4, pos := "exact.go:6252", after := #[{ on := 10, ground := Ground.data }, { on := 14, ground := Ground.gcOnly Departure.lateStores }], guard := none }) (v := ?_) rfl (by kernel_rfl) (by kernel_rfl) (by kernel_rfl) (fun _ _ _ h => h) (Or.inl ⟨by rfl, ?_⟩) (by assumption) ?_
            rotate_left
            · intro w' hSw; (try dsimp only at hSw); first | (go_simp; done) | (go_simp; with_reducible rfl)
            (try simp only [Act.put, List.setIfInBounds_toArray, List.set_cons_zero, List.set_cons_succ])
            refine wpAnyH_ready (rs := [13]) (by kernel_rfl) (by simp) ?_
            refine AllReadyH.cons (o := { dst := some 23, op := Op.alloc 40, type := 0, pos := "exact.go:6252", after := #[], guard := none }) rfl (fun K hK => ?_) AllReadyH.nil
            go_simp
            have hb : Below wn5.heap.size wn5 (wn5.alloc (.cells #[.slice none 0 0, .slice none 0 0, .slice none 0 0, .int .i64 0, .int .i64 0] 40)) := (Below.refl _ _).alloc (Nat.le_refl _) _
            obtain ⟨gD, hgD⟩ : ∃ g, g = wn5.heap.size := ⟨_, rfl⟩
            have XD := Lib.hid (show Ret.Blk (wn5.alloc (.cells #[.slice none 0 0, .slice none 0 0, .slice none 0 0, .int .i64 0, .int .i64 0] 40)) gD (dc (.slice none 0 0) (.slice none 0 0) (.slice none 0 0) 0 0) 40 from by rw [hgD]; exact Ret.Blk.new wn5 _ _)
            have HDW := Lib.hid (show w.heap.size ≤ gD from by rw [hgD]; exact BB.out.size)
            (first | replace HX := Lib.hid (show kD.In w.heap.size (wn5.alloc (.cells #[.slice none 0 0, .slice none 0 0, .slice none 0 0, .int .i64 0, .int .i64 0] 40)).heap.size (wn5.alloc (.cells #[.slice none 0 0, .slice none 0 0, .slice none 0 0, .int .i64 0, .int .i64 0] 40)) (.agg #[.slice ya ma da, .slice yb mb db, .slice yc mc dc_, .int .i64 (sgK l0 l1 l2 l3 a4).2.2.2.1, .int .i64 (sgK l0 l1 l2 l3 a4).2.2.2.2]) (sgK l0 l1 l2 l3 a4) from Kd.In.mono (Kd.In.on HX.out hb) (Nat.le_refl _) hb.size) | skip)
            rw [← hgD]
            clear hgD
            replace HA := Lib.hid (HA.out.on hb)
            replace HBk := Lib.hid (HBk.out.on hb)
            replace HC := Lib.hid (HC.out.on hb)
            replace HDb := Lib.hid (HDb.out.on hb)
            replace BB := Lib.hid (BB.out.trans (hb.mono BB.out.size))
            clear hb
            generalize wn5.alloc (.cells #[.slice none 0 0, .slice none 0 0, .slice none 0 0, .int .i64 0, .int .i64 0] 40) = wn6 at *
            clear hHeld
            refine hK.out _ _ ?_ (fun hHeld => ?_)
            · (try dsimp only); exact ⟨kc KK.out BB.out, kc KN.out BB.out⟩
            clear hK K
            (try simp only [Act.put, List.setIfInBounds_toArray, List.set_cons_zero, List.set_cons_succ])
            refine wpAnyH_ready (rs := [14]) (by kernel_rfl) (by simp) ?_
            refine AllReadyH.cons (o := { dst := none, op := Op.store 40 (Operand.tmp 23) (Operand.tmp 149), type := 0, pos := "exact.go:6252", after := #[{ on := 13, ground := Ground.data }, { on := 11, ground := Ground.data }, { on := 9, ground := Ground.chain }, { on := 0, ground := Ground.phase }, { on := 1, ground := Ground.phase }, { on := 2, ground := Ground.phase }, { on := 3, ground := Ground.phase }, { on := 4, ground := Ground.phase }, { on := 5, ground := Ground.phase }, { on := 6, ground := Ground.phase }, { on := 7, ground := Ground.phase }, { on := 8, ground := Ground.phase }, { on := 9, ground := Ground.phase }, { on := 10, ground := Ground.phase }, { on := 11, ground := Ground.phase }, { on := 12, ground := Ground.textOnly Departure.lateStores }, { on := 13, ground := Ground.phase }], guard := none }) rfl (fun K hK => ?_) AllReadyH.nil
            obtain ⟨r0, r1, r2, r3, r4⟩ := cells5 XD.out
            obtain ⟨t0, t1, t2, t3, t4⟩ := froz5 XD.out
            go_simp
            clear hHeld
            refine hK.out _ _ ?_ (fun hHeld => ?_)
            · (try dsimp only); exact ⟨cell_five (kc KK.out BB.out) (by have h1 : p < w.heap.size := cell_lt KK.out; have h2 := HDW.out; omega), cell_five (kc KN.out BB.out) (by have h1 : q < w.heap.size := cell_lt KN.out; have h2 := HDW.out; omega)⟩
            clear hK K
            (try simp only [Act.put, List.setIfInBounds_toArray, List.set_cons_zero, List.set_cons_succ])
            refine wpAnyH_take (i := 15) (oi := { dst := some 24, op := Op.assign (Operand.tmp 150), type := 4, pos := "exact.go:6252", after := #[{ on := 12, ground := Ground.data }, { on := 14, ground := Ground.chain }, { on := 0, ground := Ground.phase }, { on := 1, ground := Ground.phase }, { on := 2, ground := Ground.phase }, { on := 3, ground := Ground.phase }, { on := 4, ground := Ground.phase }, { on := 5, ground := Ground.phase }, { on := 6, ground := Ground.phase }, { on := 7, ground := Ground.phase }, { on := 8, ground := Ground.phase }, { on := 9, ground := Ground.phase }, { on := 10, ground := Ground.phase }, { on := 11, ground := Ground.phase }, { on := 12, ground := Ground.phase }, { on := 13, ground := Ground.phase }, { on := 14, ground := Ground.phase }], guard := none }) (v := ?_) rfl (by kernel_rfl) (by kernel_rfl) (by kernel_rfl) (fun _ _ _ h => h) (Or.inl ⟨by rfl, ?_⟩) (by assumption) ?_
            rotate_left
            · intro w' hSw; (try dsimp only at hSw); first | (go_simp; done) | (go_simp; with_reducible rfl)
            (try simp only [Act.put, List.setIfInBounds_toArray, List.set_cons_zero, List.set_cons_succ])
            refine wpAnyH_done (by kernel_rfl) ?_ _
            exact NoPanic.normal (HQ.out _ _ _ _ _ _ _ _ _ _ _ _ _ gD ma da mb db mc dc_ ya yb yc _ HDW.out XD.out HX.out BB.out)
          refine AllReadyH.cons (o := { dst := some 23, op := Op.alloc 40, type := 0, pos := "exact.go:6252", after := #[], guard := none }) rfl (fun K hK => ?_) AllReadyH.nil
          go_simp
          have hb : Below wn4.heap.size wn4 (wn4.alloc (.cells #[.slice none 0 0, .slice none 0 0, .slice none 0 0, .int .i64 0, .int .i64 0] 40)) := (Below.refl _ _).alloc (Nat.le_refl _) _
          obtain ⟨gD, hgD⟩ : ∃ g, g = wn4.heap.size := ⟨_, rfl⟩
          have XD := Lib.hid (show Ret.Blk (wn4.alloc (.cells #[.slice none 0 0, .slice none 0 0, .slice none 0 0, .int .i64 0, .int .i64 0] 40)) gD (dc (.slice none 0 0) (.slice none 0 0) (.slice none 0 0) 0 0) 40 from by rw [hgD]; exact Ret.Blk.new wn4 _ _)
          have HDW := Lib.hid (show w.heap.size ≤ gD from by rw [hgD]; exact BB.out.size)
          (first | replace HX := Lib.hid (show kD.In w.heap.size (wn4.alloc (.cells #[.slice none 0 0, .slice none 0 0, .slice none 0 0, .int .i64 0, .int .i64 0] 40)).heap.size (wn4.alloc (.cells #[.slice none 0 0, .slice none 0 0, .slice none 0 0, .int .i64 0, .int .i64 0] 40)) (.agg #[.slice ya ma da, .slice yb mb db, .slice yc mc dc_, .int .i64 (sgK l0 l1 l2 l3 a4).2.2.2.1, .int .i64 (sgK l0 l1 l2 l3 a4).2.2.2.2]) (sgK l0 l1 l2 l3 a4) from Kd.In.mono (Kd.In.on HX.out hb) (Nat.le_refl _) hb.size) | skip)
          rw [← hgD]
          clear hgD
          replace HA := Lib.hid (HA.out.on hb)
          replace HBk := Lib.hid (HBk.out.on hb)
          replace HC := Lib.hid (HC.out.on hb)
          replace HDb := Lib.hid (HDb.out.on hb)
          replace BB := Lib.hid (BB.out.trans (hb.mono BB.out.size))
          clear hb
          generalize wn4.alloc (.cells #[.slice none 0 0, .slice none 0 0, .slice none 0 0, .int .i64 0, .int .i64 0] 40) = wn8 at *
          clear hHeld
          refine hK.out _ _ ?_ (fun hHeld => ?_)
          · (try dsimp only); exact ⟨kc KK.out BB.out, kc KN.out BB.out⟩
          clear hK K
          (try simp only [Act.put, List.setIfInBounds_toArray, List.set_cons_zero, List.set_cons_succ])
          refine wpAnyH_ready (rs := [9]) (by kernel_rfl) (by simp) ?_
          refine AllReadyH.cons (o := { dst := some 148, op := Op.call { callee := Callee.value (Operand.func 22), args := #[Operand.tmp 140, Operand.tmp 142, Operand.tmp 144, Operand.tmp 146, Operand.tmp 147], argTypes := #[25, 34, 34, 38, 3] }, type := 41, pos := "exact.go:6252", after := #[{ on := 1, ground := Ground.data }, { on := 3, ground := Ground.data }, { on := 5, ground := Ground.data }, { on := 7, ground := Ground.data }, { on := 8, ground := Ground.data }, { on := 7, ground := Ground.chain }], guard := none }) rfl (fun K hK => ?_) AllReadyH.nil
          go_simp
          refine (implSignWithKeyK _ _ _ _ l0 l1 l2 l3 a4 _ HA.out HBk.out HC.out HDb.out (Sl.byt_of_wf N3.out) (by omega) (by omega) (by omega) (by omega)).mono ?_
          rintro e wn9 ⟨v, rfl, ho, hb⟩
          obtain ⟨ya, ma, da, yb, mb, db, yc, mc, dc_, rfl, ho⟩ := kD_shape ho
          have HX := Lib.hid (show kD.In w.heap.size wn9.heap.size wn9 (.agg #[.slice ya ma da, .slice yb mb db, .slice yc mc dc_, .int .i64 (sgK l0 l1 l2 l3 a4).2.2.2.1, .int .i64 (sgK l0 l1 l2 l3 a4).2.2.2.2]) (sgK l0 l1 l2 l3 a4) from Kd.In.mono ho BB.out.size (Nat.le_refl _)); clear ho
          replace HA := Lib.hid (HA.out.on hb)
          replace HBk := Lib.hid (HBk.out.on hb)
          replace HC := Lib.hid (HC.out.on hb)
          replace HDb := Lib.hid (HDb.out.on hb)
          replace XD := Lib.hid (XD.out.on hb)
          replace BB := Lib.hid (BB.out.trans (hb.mono BB.out.size))
          clear hb
          (try go_wp2_with fail)
          clear hHeld
          refine hK.out _ _ ?_ (fun hHeld => ?_)
          · (try dsimp only); exact ⟨kc KK.out BB.out, kc KN.out BB.out⟩
          clear hK K
          (try simp only [Act.put, List.setIfInBounds_toArray, List.set_cons_zero, List.set_cons_succ])
          refine wpAnyH_take (i := 10) (oi := { dst := some 138, op := Op.move (Operand.tmp 148), type := 41, pos := "exact.go:6252", after := #[{ on := 9, ground := Ground.data }], guard := none }) (v := ?_) rfl (by kernel_rfl) (by kernel_rfl) (by kernel_rfl) (fun _ _ _ h => h) (Or.inl ⟨by rfl, ?_⟩) (by assumption) ?_
          rotate_left
          · intro w' hSw; (try dsimp only at hSw); first | (go_simp; done) | (go_simp; with_reducible rfl)
          (try simp only [Act.put, List.setIfInBounds_toArray, List.set_cons_zero, List.set_cons_succ])
          refine wpAnyH_take (i := 11) (oi := { dst := some 149, op := Op.extract (Operand.tmp 138) 0, type := 40, pos := "exact.go:6252", after := #[{ on := 10, ground := Ground.data }], guard := none }) (v := ?_) rfl (by kernel_rfl) (by kernel_rfl) (by kernel_rfl) (fun _ _ _ h => h) (Or.inl ⟨by rfl, ?_⟩) (by assumption) ?_
          rotate_left
          · intro w' hSw; (try dsimp only at hSw); first | (go_simp; done) | (go_simp; with_reducible rfl)
          (try simp only [Act.put, List.setIfInBounds_toArray, List.set_cons_zero, List.set_cons_succ])
          refine wpAnyH_take (i := 12) (oi := { dst := some 150, op := Op.extract (Operand.tmp 138) 1, type := 4, pos := "exact.go:6252", after := #[{ on := 10, ground := Ground.data }, { on := 14, ground := Ground.gcOnly Departure.lateStores }], guard := none }) (v := ?_) rfl (by kernel_rfl) (by kernel_rfl) (by kernel_rfl) (fun _ _ _ h => h) (Or.inl ⟨by rfl, ?_⟩) (by assumption) ?_
          rotate_left
          · intro w' hSw; (try dsimp only at hSw); first | (go_simp; done) | (go_simp; with_reducible rfl)
          (try simp only [Act.put, List.setIfInBounds_toArray, List.set_cons_zero, List.set_cons_succ])
          refine wpAnyH_ready (rs := [14]) (by kernel_rfl) (by simp) ?_
          refine AllReadyH.cons (o := { dst := none, op := Op.store 40 (Operand.tmp 23) (Operand.tmp 149), type := 0, pos := "exact.go:6252", after := #[{ on := 13, ground := Ground.data }, { on := 11, ground := Ground.data }, { on := 9, ground := Ground.chain }, { on := 0, ground := Ground.phase }, { on := 1, ground := Ground.phase }, { on := 2, ground := Ground.phase }, { on := 3, ground := Ground.phase }, { on := 4, ground := Ground.phase }, { on := 5, ground := Ground.phase }, { on := 6, ground := Ground.phase }, { on := 7, ground := Ground.phase }, { on := 8, ground := Ground.phase }, { on := 9, ground := Ground.phase }, { on := 10, ground := Ground.phase }, { on := 11, ground := Ground.phase }, { on := 12, ground := Ground.textOnly Departure.lateStores }, { on := 13, ground := Ground.phase }], guard := none }) rfl (fun K hK => ?_) AllReadyH.nil
          obtain ⟨r0, r1, r2, r3, r4⟩ := cells5 XD.out
          obtain ⟨t0, t1, t2, t3, t4⟩ := froz5 XD.out
          go_simp
          clear hHeld
          refine hK.out _ _ ?_ (fun hHeld => ?_)
          · (try dsimp only); exact ⟨cell_five (kc KK.out BB.out) (by have h1 : p < w.heap.size := cell_lt KK.out; have h2 := HDW.out; omega), cell_five (kc KN.out BB.out) (by have h1 : q < w.heap.size := cell_lt KN.out; have h2 := HDW.out; omega)⟩
          clear hK K
          (try simp only [Act.put, List.setIfInBounds_toArray, List.set_cons_zero, List.set_cons_succ])
          refine wpAnyH_take (i := 15) (oi := { dst := some 24, op := Op.assign (Operand.tmp 150), type := 4, pos := "exact.go:6252", after := #[{ on := 12, ground := Ground.data }, { on := 14, ground := Ground.chain }, { on := 0, ground := Ground.phase }, { on := 1, ground := Ground.phase }, { on := 2, ground := Ground.phase }, { on := 3, ground := Ground.phase }, { on := 4, ground := Ground.phase }, { on := 5, ground := Ground.phase }, { on := 6, ground := Ground.phase }, { on := 7, ground := Ground.phase }, { on := 8, ground := Ground.phase }, { on := 9, ground := Ground.phase }, { on := 10, ground := Ground.phase }, { on := 11, ground := Ground.phase }, { on := 12, ground := Ground.phase }, { on := 13, ground := Ground.phase }, { on := 14, ground := Ground.phase }], guard := none }) (v := ?_) rfl (by kernel_rfl) (by kernel_rfl) (by kernel_rfl) (fun _ _ _ h => h) (Or.inl ⟨by rfl, ?_⟩) (by assumption) ?_
          rotate_left
          · intro w' hSw; (try dsimp only at hSw); first | (go_simp; done) | (go_simp; with_reducible rfl)
          (try simp only [Act.put, List.setIfInBounds_toArray, List.set_cons_zero, List.set_cons_succ])
          refine wpAnyH_done (by kernel_rfl) ?_ _
          exact NoPanic.normal (HQ.out _ _ _ _ _ _ _ _ _ _ _ _ _ gD ma da mb db mc dc_ ya yb yc _ HDW.out XD.out HX.out BB.out)
        refine AllReadyH.cons (o := { dst := some 23, op := Op.alloc 40, type := 0, pos := "exact.go:6252", after := #[], guard := none }) rfl (fun K hK => ?_) AllReadyH.nil
        go_simp
        have hb : Below wn3.heap.size wn3 (wn3.alloc (.cells #[.slice none 0 0, .slice none 0 0, .slice none 0 0, .int .i64 0, .int .i64 0] 40)) := (Below.refl _ _).alloc (Nat.le_refl _) _
        obtain ⟨gD, hgD⟩ : ∃ g, g = wn3.heap.size := ⟨_, rfl⟩
        have XD := Lib.hid (show Ret.Blk (wn3.alloc (.cells #[.slice none 0 0, .slice none 0 0, .slice none 0 0, .int .i64 0, .int .i64 0] 40)) gD (dc (.slice none 0 0) (.slice none 0 0) (.slice none 0 0) 0 0) 40 from by rw [hgD]; exact Ret.Blk.new wn3 _ _)
        have HDW := Lib.hid (show w.heap.size ≤ gD from by rw [hgD]; exact BB.out.size)
        (first | replace HX := Lib.hid (show kD.In w.heap.size (wn3.alloc (.cells #[.slice none 0 0, .slice none 0 0, .slice none 0 0, .int .i64 0, .int .i64 0] 40)).heap.size (wn3.alloc (.cells #[.slice none 0 0, .slice none 0 0, .slice none 0 0, .int .i64 0, .int .i64 0] 40)) (.agg #[.slice ya ma da, .slice yb mb db, .slice yc mc dc_, .int .i64 (sgK l0 l1 l2 l3 a4).2.2.2.1, .int .i64 (sgK l0 l1 l2 l3 a4).2.2.2.2]) (sgK l0 l1 l2 l3 a4) from Kd.In.mono (Kd.In.on HX.out hb) (Nat.le_refl _) hb.size) | skip)
        rw [← hgD]
        clear hgD
        replace HA := Lib.hid (HA.out.on hb)
        replace HBk := Lib.hid (HBk.out.on hb)
        replace HC := Lib.hid (HC.out.on hb)
        replace BB := Lib.hid (BB.out.trans (hb.mono BB.out.size))
        clear hb
        generalize wn3.alloc (.cells #[.slice none 0 0, .slice none 0 0, .slice none 0 0, .int .i64 0, .int .i64 0] 40) = wn11 at *
        clear hHeld
        refine hK.out _ _ ?_ (fun hHeld => ?_)
        · (try dsimp only); exact ⟨kc KK.out BB.out, kc KN.out BB.out⟩
        clear hK K
        (try simp only [Act.put, List.setIfInBounds_toArray, List.set_cons_zero, List.set_cons_succ])
        refine wpAnyH_ready (rs := [7]) (by kernel_rfl) (by simp) ?_
        refine AllReadyH.cons (o := { dst := some 146, op := Op.call { callee := Callee.value (Operand.func 21), args := #[Operand.tmp 145], argTypes := #[38] }, type := 38, pos := "exact.go:6252", after := #[{ on := 6, ground := Ground.data }, { on := 5, ground := Ground.chain }], guard := none }) rfl (fun K hK => ?_) AllReadyH.nil
        go_simp
        refine (toB _ l3 _ (H3.out.on BB.out) (by omega)).mono ?_
        rintro e wn12 ⟨v, rfl, ho, hb⟩
        obtain ⟨xD, nD, cD, rfl, ho⟩ := kB_shape ho
        have HDb := Lib.hid ho.at; clear ho
        replace HA := Lib.hid (HA.out.on hb)
        replace HBk := Lib.hid (HBk.out.on hb)
        replace HC := Lib.hid (HC.out.on hb)
        replace XD := Lib.hid (XD.out.on hb)
        replace BB := Lib.hid (BB.out.trans (hb.mono BB.out.size))
        clear hb
        (try go_wp2_with fail)
        clear hHeld
        refine hK.out _ _ ?_ (fun hHeld => ?_)
        · (try dsimp only); exact ⟨kc KK.out BB.out, kc KN.out BB.out⟩
        clear hK K
        (try simp only [Act.put, List.setIfInBounds_toArray, List.set_cons_zero, List.set_cons_succ])
        refine wpAnyH_ready (rs := [9]) (by kernel_rfl) (by simp) ?_
        refine AllReadyH.cons (o := { dst := some 148, op := Op.call { callee := Callee.value (Operand.func 22), args := #[Operand.tmp 140, Operand.tmp 142, Operand.tmp 144, Operand.tmp 146, Operand.tmp 147], argTypes := #[25, 34, 34, 38, 3] }, type := 41, pos := "exact.go:6252", after := #[{ on := 1, ground := Ground.data }, { on := 3, ground := Ground.data }, { on := 5, ground := Ground.data }, { on := 7, ground := Ground.data }, { on := 8, ground := Ground.data }, { on := 7, ground := Ground.chain }], guard := none }) rfl (fun K hK => ?_) AllReadyH.nil
        go_simp
        refine (implSignWithKeyK _ _ _ _ l0 l1 l2 l3 a4 _ HA.out HBk.out HC.out HDb.out (Sl.byt_of_wf N3.out) (by omega) (by omega) (by omega) (by omega)).mono ?_
        rintro e wn13 ⟨v, rfl, ho, hb⟩
        obtain ⟨ya, ma, da, yb, mb, db, yc, mc, dc_, rfl, ho⟩ := kD_shape ho
        have HX := Lib.hid (show kD.In w.heap.size wn13.heap.size wn13 (.agg #[.slice ya ma da, .slice yb mb db, .slice yc mc dc_, .int .i64 (sgK l0 l1 l2 l3 a4).2.2.2.1, .int .i64 (sgK l0 l1 l2 l3 a4).2.2.2.2]) (sgK l0 l1 l2 l3 a4) from Kd.In.mono ho BB.out.size (Nat.le_refl _)); clear ho
        replace HA := Lib.hid (HA.out.on hb)
        replace HBk := Lib.hid (HBk.out.on hb)
        replace HC := Lib.hid (HC.out.on hb)
        replace XD := Lib.hid (XD.out.on hb)
        replace HDb := Lib.hid (HDb.out.on hb)
        replace BB := Lib.hid (BB.out.trans (hb.mono BB.out.size))
        clear hb
        (try go_wp2_with fail)
        clear hHeld
        refine hK.out _ _ ?_ (fun hHeld => ?_)
        · (try dsimp only); exact ⟨kc KK.out BB.out, kc KN.out BB.out⟩
        clear hK K
        (try simp only [Act.put, List.setIfInBounds_toArray, List.set_cons_zero, List.set_cons_succ])
        refine wpAnyH_take (i := 10) (oi := { dst := some 138, op := Op.move (Operand.tmp 148), type := 41, pos := "exact.go:6252", after := #[{ on := 9, ground := Ground.data }], guard := none }) (v := ?_) rfl (by kernel_rfl) (by kernel_rfl) (by kernel_rfl) (fun _ _ _ h => h) (Or.inl ⟨by rfl, ?_⟩) (by assumption) ?_
        rotate_left
        · intro w' hSw; (try dsimp only at hSw); first | (go_simp; done) | (go_simp; with_reducible rfl)
        (try simp only [Act.put, List.setIfInBounds_toArray, List.set_cons_zero, List.set_cons_succ])
        refine wpAnyH_take (i := 11) (oi := { dst := some 149, op := Op.extract (Operand.tmp 138) 0, type := 40, pos := "exact.go:6252", after := #[{ on := 10, ground := Ground.data }], guard := none }) (v := ?_) rfl (by kernel_rfl) (by kernel_rfl) (by kernel_rfl) (fun _ _ _ h => h) (Or.inl ⟨by rfl, ?_⟩) (by assumption) ?_
        rotate_left
        · intro w' hSw; (try dsimp only at hSw); first | (go_simp; done) | (go_simp; with_reducible rfl)
        (try simp only [Act.put, List.setIfInBounds_toArray, List.set_cons_zero, List.set_cons_succ])
        refine wpAnyH_take (i := 12) (oi := { dst := some 150, op := Op.extract (Operand.tmp 138) 1, type := 4, pos := "exact.go:6252", after := #[{ on := 10, ground := Ground.data }, { on := 14, ground := Ground.gcOnly Departure.lateStores }], guard := none }) (v := ?_) rfl (by kernel_rfl) (by kernel_rfl) (by kernel_rfl) (fun _ _ _ h => h) (Or.inl ⟨by rfl, ?_⟩) (by assumption) ?_
        rotate_left
        · intro w' hSw; (try dsimp only at hSw); first | (go_simp; done) | (go_simp; with_reducible rfl)
        (try simp only [Act.put, List.setIfInBounds_toArray, List.set_cons_zero, List.set_cons_succ])
        refine wpAnyH_ready (rs := [14]) (by kernel_rfl) (by simp) ?_
        refine AllReadyH.cons (o := { dst := none, op := Op.store 40 (Operand.tmp 23) (Operand.tmp 149), type := 0, pos := "exact.go:6252", after := #[{ on := 13, ground := Ground.data }, { on := 11, ground := Ground.data }, { on := 9, ground := Ground.chain }, { on := 0, ground := Ground.phase }, { on := 1, ground := Ground.phase }, { on := 2, ground := Ground.phase }, { on := 3, ground := Ground.phase }, { on := 4, ground := Ground.phase }, { on := 5, ground := Ground.phase }, { on := 6, ground := Ground.phase }, { on := 7, ground := Ground.phase }, { on := 8, ground := Ground.phase }, { on := 9, ground := Ground.phase }, { on := 10, ground := Ground.phase }, { on := 11, ground := Ground.phase }, { on := 12, ground := Ground.textOnly Departure.lateStores }, { on := 13, ground := Ground.phase }], guard := none }) rfl (fun K hK => ?_) AllReadyH.nil
        obtain ⟨r0, r1, r2, r3, r4⟩ := cells5 XD.out
        obtain ⟨t0, t1, t2, t3, t4⟩ := froz5 XD.out
        go_simp
        clear hHeld
        refine hK.out _ _ ?_ (fun hHeld => ?_)
        · (try dsimp only); exact ⟨cell_five (kc KK.out BB.out) (by have h1 : p < w.heap.size := cell_lt KK.out; have h2 := HDW.out; omega), cell_five (kc KN.out BB.out) (by have h1 : q < w.heap.size := cell_lt KN.out; have h2 := HDW.out; omega)⟩
        clear hK K
        (try simp only [Act.put, List.setIfInBounds_toArray, List.set_cons_zero, List.set_cons_succ])
        refine wpAnyH_take (i := 15) (oi := { dst := some 24, op := Op.assign (Operand.tmp 150), type := 4, pos := "exact.go:6252", after := #[{ on := 12, ground := Ground.data }, { on := 14, ground := Ground.chain }, { on := 0, ground := Ground.phase }, { on := 1, ground := Ground.phase }, { on := 2, ground := Ground.phase }, { on := 3, ground := Ground.phase }, { on := 4, ground := Ground.phase }, { on := 5, ground := Ground.phase }, { on := 6, ground := Ground.phase }, { on := 7, ground := Ground.phase }, { on := 8, ground := Ground.phase }, { on := 9, ground := Ground.phase }, { on := 10, ground := Ground.phase }, { on := 11, ground := Ground.phase }, { on := 12, ground := Ground.phase }, { on := 13, ground := Ground.phase }, { on := 14, ground := Ground.phase }], guard := none }) (v := ?_) rfl (by kernel_rfl) (by kernel_rfl) (by kernel_rfl) (fun _ _ _ h => h) (Or.inl ⟨by rfl, ?_⟩) (by assumption) ?_
        rotate_left
        · intro w' hSw; (try dsimp only at hSw); first | (go_simp; done) | (go_simp; with_reducible rfl)
        (try simp only [Act.put, List.setIfInBounds_toArray, List.set_cons_zero, List.set_cons_succ])
        refine wpAnyH_done (by kernel_rfl) ?_ _
        exact NoPanic.normal (HQ.out _ _ _ _ _ _ _ _ _ _ _ _ _ gD ma da mb db mc dc_ ya yb yc _ HDW.out XD.out HX.out BB.out)
      refine AllReadyH.cons (o := { dst := some 23, op := Op.alloc 40, type := 0, pos := "exact.go:6252", after := #[], guard := none }) rfl (fun K hK => ?_) AllReadyH.nil
      go_simp
      have hb : Below wn2.heap.size wn2 (wn2.alloc (.cells #[.slice none 0 0, .slice none 0 0, .slice none 0 0, .int .i64 0, .int .i64 0] 40)) := (Below.refl _ _).alloc (Nat.le_refl _) _
      obtain ⟨gD, hgD⟩ : ∃ g, g = wn2.heap.size := ⟨_, rfl⟩
      have XD := Lib.hid (show Ret.Blk (wn2.alloc (.cells #[.slice none 0 0, .slice none 0 0, .slice none 0 0, .int .i64 0, .int .i64 0] 40)) gD (dc (.slice none 0 0) (.slice none 0 0) (.slice none 0 0) 0 0) 40 from by rw [hgD]; exact Ret.Blk.new wn2 _ _)
      have HDW := Lib.hid (show w.heap.size ≤ gD from by rw [hgD]; exact BB.out.size)
      (first | replace HX := Lib.hid (show kD.In w.heap.size (wn2.alloc (.cells #[.slice none 0 0, .slice none 0 0, .slice none 0 0, .int .i64 0, .int .i64 0] 40)).heap.size (wn2.alloc (.cells #[.slice none 0 0, .slice none 0 0, .slice none 0 0, .int .i64 0, .int .i64 0] 40)) (.agg #[.slice ya ma da, .slice yb mb db, .slice yc mc dc_, .int .i64 (sgK l0 l1 l2 l3 a4).2.2.2.1, .int .i64 (sgK l0 l1 l2 l3 a4).2.2.2.2]) (sgK l0 l1 l2 l3 a4) from Kd.In.mono (Kd.In.on HX.out hb) (Nat.le_refl _) hb.size) | skip)
      rw [← hgD]
      clear hgD
      replace HA := Lib.hid (HA.out.on hb)
      replace HBk := Lib.hid (HBk.out.on hb)
      replace BB := Lib.hid (BB.out.trans (hb.mono BB.out.size))
      clear hb
      generalize wn2.alloc (.cells #[.slice none 0 0, .slice none 0 0, .slice none 0 0, .int .i64 0, .int .i64 0] 40) = wn15 at *
      clear hHeld
      refine hK.out _ _ ?_ (fun hHeld => ?_)
      · (try dsimp only); exact ⟨kc KK.out BB.out, kc KN.out BB.out⟩
      clear hK K
      (try simp only [Act.put, List.setIfInBounds_toArray, List.set_cons_zero, List.set_cons_succ])
      refine wpAnyH_ready (rs := [5]) (by kernel_rfl) (by simp) ?_
      refine AllReadyH.cons (o := { dst := some 144, op := Op.call { callee := Callee.value (Operand.func 17), args := #[Operand.tmp 143], argTypes := #[31] }, type := 34, pos := "exact.go:6252", after := #[{ on := 4, ground := Ground.data }, { on := 3, ground := Ground.chain }], guard := none }) rfl (fun K hK => ?_) AllReadyH.nil
      go_simp
      refine (toNK _ l2 _ (H2.out.on BB.out) (by have := Row.bulk_len l2; omega)).mono ?_
      rintro e wn16 ⟨v, rfl, ho, hb⟩
      obtain ⟨xC, nC, cC, rfl, ho⟩ := kN_shape ho
      have HC := Lib.hid ho.at; clear ho
      replace HA := Lib.hid (HA.out.on hb)
      replace HBk := Lib.hid (HBk.out.on hb)
      replace XD := Lib.hid (XD.out.on hb)
      replace BB := Lib.hid (BB.out.trans (hb.mono BB.out.size))
      clear hb
      (try go_wp2_with fail)
      clear hHeld
      refine hK.out _ _ ?_ (fun hHeld => ?_)
      · (try dsimp only); exact ⟨kc KK.out BB.out, kc KN.out BB.out⟩
      clear hK K
      (try simp only [Act.put, List.setIfInBounds_toArray, List.set_cons_zero, List.set_cons_succ])
      refine wpAnyH_ready (rs := [7]) (by kernel_rfl) (by simp) ?_
      refine AllReadyH.cons (o := { dst := some 146, op := Op.call { callee := Callee.value (Operand.func 21), args := #[Operand.tmp 145], argTypes := #[38] }, type := 38, pos := "exact.go:6252", after := #[{ on := 6, ground := Ground.data }, { on := 5, ground := Ground.chain }], guard := none }) rfl (fun K hK => ?_) AllReadyH.nil
      go_simp
      refine (toB _ l3 _ (H3.out.on BB.out) (by omega)).mono ?_
      rintro e wn17 ⟨v, rfl, ho, hb⟩
      obtain ⟨xD, nD, cD, rfl, ho⟩ := kB_shape ho
      have HDb := Lib.hid ho.at; clear ho
      replace HA := Lib.hid (HA.out.on hb)
      replace HBk := Lib.hid (HBk.out.on hb)
      replace XD := Lib.hid (XD.out.on hb)
      replace HC := Lib.hid (HC.out.on hb)
      replace BB := Lib.hid (BB.out.trans (hb.mono BB.out.size))
      clear hb
      (try go_wp2_with fail)
      clear hHeld
      refine hK.out _ _ ?_ (fun hHeld => ?_)
      · (try dsimp only); exact ⟨kc KK.out BB.out, kc KN.out BB.out⟩
      clear hK K
      (try simp only [Act.put, List.setIfInBounds_toArray, List.set_cons_zero, List.set_cons_succ])
      refine wpAnyH_ready (rs := [9]) (by kernel_rfl) (by simp) ?_
      refine AllReadyH.cons (o := { dst := some 148, op := Op.call { callee := Callee.value (Operand.func 22), args := #[Operand.tmp 140, Operand.tmp 142, Operand.tmp 144, Operand.tmp 146, Operand.tmp 147], argTypes := #[25, 34, 34, 38, 3] }, type := 41, pos := "exact.go:6252", after := #[{ on := 1, ground := Ground.data }, { on := 3, ground := Ground.data }, { on := 5, ground := Ground.data }, { on := 7, ground := Ground.data }, { on := 8, ground := Ground.data }, { on := 7, ground := Ground.chain }], guard := none }) rfl (fun K hK => ?_) AllReadyH.nil
      go_simp
      refine (implSignWithKeyK _ _ _ _ l0 l1 l2 l3 a4 _ HA.out HBk.out HC.out HDb.out (Sl.byt_of_wf N3.out) (by omega) (by omega) (by omega) (by omega)).mono ?_
      rintro e wn18 ⟨v, rfl, ho, hb⟩
      obtain ⟨ya, ma, da, yb, mb, db, yc, mc, dc_, rfl, ho⟩ := kD_shape ho
      have HX := Lib.hid (show kD.In w.heap.size wn18.heap.size wn18 (.agg #[.slice ya ma da, .slice yb mb db, .slice yc mc dc_, .int .i64 (sgK l0 l1 l2 l3 a4).2.2.2.1, .int .i64 (sgK l0 l1 l2 l3 a4).2.2.2.2]) (sgK l0 l1 l2 l3 a4) from Kd.In.mono ho BB.out.size (Nat.le_refl _)); clear ho
      replace HA := Lib.hid (HA.out.on hb)
      replace HBk := Lib.hid (HBk.out.on hb)
      replace XD := Lib.hid (XD.out.on hb)
      replace HC := Lib.hid (HC.out.on hb)
      replace HDb := Lib.hid (HDb.out.on hb)
      replace BB := Lib.hid (BB.out.trans (hb.mono BB.out.size))
      clear hb
      (try go_wp2_with fail)
      clear hHeld
      refine hK.out _ _ ?_ (fun hHeld => ?_)
      · (try dsimp only); exact ⟨kc KK.out BB.out, kc KN.out BB.out⟩
      clear hK K
      (try simp only [Act.put, List.setIfInBounds_toArray, List.set_cons_zero, List.set_cons_succ])
      refine wpAnyH_take (i := 10) (oi := { dst := some 138, op := Op.move (Operand.tmp 148), type := 41, pos := "exact.go:6252", after := #[{ on := 9, ground := Ground.data }], guard := none }) (v := ?_) rfl (by kernel_rfl) (by kernel_rfl) (by kernel_rfl) (fun _ _ _ h => h) (Or.inl ⟨by rfl, ?_⟩) (by assumption) ?_
      rotate_left
      · intro w' hSw; (try dsimp only at hSw); first | (go_simp; done) | (go_simp; with_reducible rfl)
      (try simp only [Act.put, List.setIfInBounds_toArray, List.set_cons_zero, List.set_cons_succ])
      refine wpAnyH_take (i := 11) (oi := { dst := some 149, op := Op.extract (Operand.tmp 138) 0, type := 40, pos := "exact.go:6252", after := #[{ on := 10, ground := Ground.data }], guard := none }) (v := ?_) rfl (by kernel_rfl) (by kernel_rfl) (by kernel_rfl) (fun _ _ _ h => h) (Or.inl ⟨by rfl, ?_⟩) (by assumption) ?_
      rotate_left
      · intro w' hSw; (try dsimp only at hSw); first | (go_simp; done) | (go_simp; with_reducible rfl)
      (try simp only [Act.put, List.setIfInBounds_toArray, List.set_cons_zero, List.set_cons_succ])
      refine wpAnyH_take (i := 12) (oi := { dst := some 150, op := Op.extract (Operand.tmp 138) 1, type := 4, pos := "exact.go:6252", after := #[{ on := 10, ground := Ground.data }, { on := 14, ground := Ground.gcOnly Departure.lateStores }], guard := none }) (v := ?_) rfl (by kernel_rfl) (by kernel_rfl) (by kernel_rfl) (fun _ _ _ h => h) (Or.inl ⟨by rfl, ?_⟩) (by assumption) ?_
      rotate_left
      · intro w' hSw; (try dsimp only at hSw); first | (go_simp; done) | (go_simp; with_reducible rfl)
      (try simp only [Act.put, List.setIfInBounds_toArray, List.set_cons_zero, List.set_cons_succ])
      refine wpAnyH_ready (rs := [14]) (by kernel_rfl) (by simp) ?_
      refine AllReadyH.cons (o := { dst := none, op := Op.store 40 (Operand.tmp 23) (Operand.tmp 149), type := 0, pos := "exact.go:6252", after := #[{ on := 13, ground := Ground.data }, { on := 11, ground := Ground.data }, { on := 9, ground := Ground.chain }, { on := 0, ground := Ground.phase }, { on := 1, ground := Ground.phase }, { on := 2, ground := Ground.phase }, { on := 3, ground := Ground.phase }, { on := 4, ground := Ground.phase }, { on := 5, ground := Ground.phase }, { on := 6, ground := Ground.phase }, { on := 7, ground := Ground.phase }, { on := 8, ground := Ground.phase }, { on := 9, ground := Ground.phase }, { on := 10, ground := Ground.phase }, { on := 11, ground := Ground.phase }, { on := 12, ground := Ground.textOnly Departure.lateStores }, { on := 13, ground := Ground.phase }], guard := none }) rfl (fun K hK => ?_) AllReadyH.nil
      obtain ⟨r0, r1, r2, r3, r4⟩ := cells5 XD.out
      obtain ⟨t0, t1, t2, t3, t4⟩ := froz5 XD.out
      go_simp
      clear hHeld
      refine hK.out _ _ ?_ (fun hHeld => ?_)
      · (try dsimp only); exact ⟨cell_five (kc KK.out BB.out) (by have h1 : p < w.heap.size := cell_lt KK.out; have h2 := HDW.out; omega), cell_five (kc KN.out BB.out) (by have h1 : q < w.heap.size := cell_lt KN.out; have h2 := HDW.out; omega)⟩
      clear hK K
      (try simp only [Act.put, List.setIfInBounds_toArray, List.set_cons_zero, List.set_cons_succ])
      refine wpAnyH_take (i := 15) (oi := { dst := some 24, op := Op.assign (Operand.tmp 150), type := 4, pos := "exact.go:6252", after := #[{ on := 12, ground := Ground.data }, { on := 14, ground := Ground.chain }, { on := 0, ground := Ground.phase }, { on := 1, ground := Ground.phase }, { on := 2, ground := Ground.phase }, { on := 3, ground := Ground.phase }, { on := 4, ground := Ground.phase }, { on := 5, ground := Ground.phase }, { on := 6, ground := Ground.phase }, { on := 7, ground := Ground.phase }, { on := 8, ground := Ground.phase }, { on := 9, ground := Ground.phase }, { on := 10, ground := Ground.phase }, { on := 11, ground := Ground.phase }, { on := 12, ground := Ground.phase }, { on := 13, ground := Ground.phase }, { on := 14, ground := Ground.phase }], guard := none }) (v := ?_) rfl (by kernel_rfl) (by kernel_rfl) (by kernel_rfl) (fun _ _ _ h => h) (Or.inl ⟨by rfl, ?_⟩) (by assumption) ?_
      rotate_left
      · intro w' hSw; (try dsimp only at hSw); first | (go_simp; done) | (go_simp; with_reducible rfl)
      (try simp only [Act.put, List.setIfInBounds_toArray, List.set_cons_zero, List.set_cons_succ])
      refine wpAnyH_done (by kernel_rfl) ?_ _
      exact NoPanic.normal (HQ.out _ _ _ _ _ _ _ _ _ _ _ _ _ gD ma da mb db mc dc_ ya yb yc _ HDW.out XD.out HX.out BB.out)
    refine AllReadyH.cons (o := { dst := some 23, op := Op.alloc 40, type := 0, pos := "exact.go:6252", after := #[], guard := none }) rfl (fun K hK => ?_) AllReadyH.nil
    go_simp
    have hb : Below wn1.heap.size wn1 (wn1.alloc (.cells #[.slice none 0 0, .slice none 0 0, .slice none 0 0, .int .i64 0, .int .i64 0] 40)) := (Below.refl _ _).alloc (Nat.le_refl _) _
    obtain ⟨gD, hgD⟩ : ∃ g, g = wn1.heap.size := ⟨_, rfl⟩
    have XD := Lib.hid (show Ret.Blk (wn1.alloc (.cells #[.slice none 0 0, .slice none 0 0, .slice none 0 0, .int .i64 0, .int .i64 0] 40)) gD (dc (.slice none 0 0) (.slice none 0 0) (.slice none 0 0) 0 0) 40 from by rw [hgD]; exact Ret.Blk.new wn1 _ _)
    have HDW := Lib.hid (show w.heap.size ≤ gD from by rw [hgD]; exact BB.out.size)
    (first | replace HX := Lib.hid (show kD.In w.heap.size (wn1.alloc (.cells #[.slice none 0 0, .slice none 0 0, .slice none 0 0, .int .i64 0, .int .i64 0] 40)).heap.size (wn1.alloc (.cells #[.slice none 0 0, .slice none 0 0, .slice none 0 0, .int .i64 0, .int .i64 0] 40)) (.agg #[.slice ya ma da, .slice yb mb db, .slice yc mc dc_, .int .i64 (sgK l0 l1 l2 l3 a4).2.2.2.1, .int .i64 (sgK l0 l1 l2 l3 a4).2.2.2.2]) (sgK l0 l1 l2 l3 a4) from Kd.In.mono (Kd.In.on HX.out hb) (Nat.le_refl _) hb.size) | skip)
    rw [← hgD]
    clear hgD
    replace HA := Lib.hid (HA.out.on hb)
    replace BB := Lib.hid (BB.out.trans (hb.mono BB.out.size))
    clear hb
    generalize wn1.alloc (.cells #[.slice none 0 0, .slice none 0 0, .slice none 0 0, .int .i64 0, .int .i64 0] 40) = wn20 at *
    clear hHeld
    refine hK.out _ _ ?_ (fun hHeld => ?_)
    · (try dsimp only); exact ⟨kc KK.out BB.out, kc KN.out BB.out⟩
    clear hK K
    (try simp only [Act.put, List.setIfInBounds_toArray, List.set_cons_zero, List.set_cons_succ])
    refine wpAnyH_ready (rs := [3]) (by kernel_rfl) (by simp) ?_
    refine AllReadyH.cons (o := { dst := some 142, op := Op.call { callee := Callee.value (Operand.func 17), args := #[Operand.tmp 141], argTypes := #[31] }, type := 34, pos := "exact.go:6252", after := #[{ on := 2, ground := Ground.data }, { on := 1, ground := Ground.chain }], guard := none }) rfl (fun K hK => ?_) AllReadyH.nil
    go_simp
    refine (toNK _ l1 _ (H1.out.on BB.out) (by have := Row.bulk_len l1; omega)).mono ?_
    rintro e wn21 ⟨v, rfl, ho, hb⟩
    obtain ⟨xB, nB, cB, rfl, ho⟩ := kN_shape ho
    have HBk := Lib.hid ho.at; clear ho
    replace HA := Lib.hid (HA.out.on hb)
    replace XD := Lib.hid (XD.out.on hb)
    replace BB := Lib.hid (BB.out.trans (hb.mono BB.out.size))
    clear hb
    (try go_wp2_with fail)
    clear hHeld
    refine hK.out _ _ ?_ (fun hHeld => ?_)
    · (try dsimp only); exact ⟨kc KK.out BB.out, kc KN.out BB.out⟩
    clear hK K
    (try simp only [Act.put, List.setIfInBounds_toArray, List.set_cons_zero, List.set_cons_succ])
    refine wpAnyH_ready (rs := [5]) (by kernel_rfl) (by simp) ?_
    refine AllReadyH.cons (o := { dst := some 144, op := Op.call { callee := Callee.value (Operand.func 17), args := #[Operand.tmp 143], argTypes := #[31] }, type := 34, pos := "exact.go:6252", after := #[{ on := 4, ground := Ground.data }, { on := 3, ground := Ground.chain }], guard := none }) rfl (fun K hK => ?_) AllReadyH.nil
    go_simp
    refine (toNK _ l2 _ (H2.out.on BB.out) (by have := Row.bulk_len l2; omega)).mono ?_
    rintro e wn22 ⟨v, rfl, ho, hb⟩
    obtain ⟨xC, nC, cC, rfl, ho⟩ := kN_shape ho
    have HC := Lib.hid ho.at; clear ho
    replace HA := Lib.hid (HA.out.on hb)
    replace XD := Lib.hid (XD.out.on hb)
    replace HBk := Lib.hid (HBk.out.on hb)
    replace BB := Lib.hid (BB.out.trans (hb.mono BB.out.size))
    clear hb
    (try go_wp2_with fail)
    clear hHeld
    refine hK.out _ _ ?_ (fun hHeld => ?_)
    · (try dsimp only); exact ⟨kc KK.out BB.out, kc KN.out BB.out⟩
    clear hK K
    (try simp only [Act.put, List.setIfInBounds_toArray, List.set_cons_zero, List.set_cons_succ])
    refine wpAnyH_ready (rs := [7]) (by kernel_rfl) (by simp) ?_
    refine AllReadyH.cons (o := { dst := some 146, op := Op.call { callee := Callee.value (Operand.func 21), args := #[Operand.tmp 145], argTypes := #[38] }, type := 38, pos := "exact.go:6252", after := #[{ on := 6, ground := Ground.data }, { on := 5, ground := Ground.chain }], guard := none }) rfl (fun K hK => ?_) AllReadyH.nil
    go_simp
    refine (toB _ l3 _ (H3.out.on BB.out) (by omega)).mono ?_
    rintro e wn23 ⟨v, rfl, ho, hb⟩
    obtain ⟨xD, nD, cD, rfl, ho⟩ := kB_shape ho
    have HDb := Lib.hid ho.at; clear ho
    replace HA := Lib.hid (HA.out.on hb)
    replace XD := Lib.hid (XD.out.on hb)
    replace HBk := Lib.hid (HBk.out.on hb)
    replace HC := Lib.hid (HC.out.on hb)
    replace BB := Lib.hid (BB.out.trans (hb.mono BB.out.size))
    clear hb
    (try go_wp2_with fail)
    clear hHeld
    refine hK.out _ _ ?_ (fun hHeld => ?_)
    · (try dsimp only); exact ⟨kc KK.out BB.out, kc KN.out BB.out⟩
    clear hK K
    (try simp only [Act.put, List.setIfInBounds_toArray, List.set_cons_zero, List.set_cons_succ])
    refine wpAnyH_ready (rs := [9]) (by kernel_rfl) (by simp) ?_
    refine AllReadyH.cons (o := { dst := some 148, op := Op.call { callee := Callee.value (Operand.func 22), args := #[Operand.tmp 140, Operand.tmp 142, Operand.tmp 144, Operand.tmp 146, Operand.tmp 147], argTypes := #[25, 34, 34, 38, 3] }, type := 41, pos := "exact.go:6252", after := #[{ on := 1, ground := Ground.data }, { on := 3, ground := Ground.data }, { on := 5, ground := Ground.data }, { on := 7, ground := Ground.data }, { on := 8, ground := Ground.data }, { on := 7, ground := Ground.chain }], guard := none }) rfl (fun K hK => ?_) AllReadyH.nil
    go_simp
    refine (implSignWithKeyK _ _ _ _ l0 l1 l2 l3 a4 _ HA.out HBk.out HC.out HDb.out (Sl.byt_of_wf N3.out) (by omega) (by omega) (by omega) (by omega)).mono ?_
    rintro e wn24 ⟨v, rfl, ho, hb⟩
    obtain ⟨ya, ma, da, yb, mb, db, yc, mc, dc_, rfl, ho⟩ := kD_shape ho
    have HX := Lib.hid (show kD.In w.heap.size wn24.heap.size wn24 (.agg #[.slice ya ma da, .slice yb mb db, .slice yc mc dc_, .int .i64 (sgK l0 l1 l2 l3 a4).2.2.2.1, .int .i64 (sgK l0 l1 l2 l3 a4).2.2.2.2]) (sgK l0 l1 l2 l3 a4) from Kd.In.mono ho BB.out.size (Nat.le_refl _)); clear ho
    replace HA := Lib.hid (HA.out.on hb)
    replace XD := Lib.hid (XD.out.on hb)
    replace HBk := Lib.hid (HBk.out.on hb)
    replace HC := Lib.hid (HC.out.on hb)
    replace HDb := Lib.hid (HDb.out.on hb)
    replace BB := Lib.hid (BB.out.trans (hb.mono BB.out.size))
    clear hb
    (try go_wp2_with fail)
    clear hHeld
    refine hK.out _ _ ?_ (fun hHeld => ?_)
    · (try dsimp only); exact ⟨kc KK.out BB.out, kc KN.out BB.out⟩
    clear hK K
    (try simp only [Act.put, List.setIfInBounds_toArray, List.set_cons_zero, List.set_cons_succ])
    refine wpAnyH_take (i := 10) (oi := { dst := some 138, op := Op.move (Operand.tmp 148), type := 41, pos := "exact.go:6252", after := #[{ on := 9, ground := Ground.data }], guard := none }) (v := ?_) rfl (by kernel_rfl) (by kernel_rfl) (by kernel_rfl) (fun _ _ _ h => h) (Or.inl ⟨by rfl, ?_⟩) (by assumption) ?_
    rotate_left
    · intro w' hSw; (try dsimp only at hSw); first | (go_simp; done) | (go_simp; with_reducible rfl)
    (try simp only [Act.put, List.setIfInBounds_toArray, List.set_cons_zero, List.set_cons_succ])
    refine wpAnyH_take (i := 11) (oi := { dst := some 149, op := Op.extract (Operand.tmp 138) 0, type := 40, pos := "exact.go:6252", after := #[{ on := 10, ground := Ground.data }], guard := none }) (v := ?_) rfl (by kernel_rfl) (by kernel_rfl) (by kernel_rfl) (fun _ _ _ h => h) (Or.inl ⟨by rfl, ?_⟩) (by assumption) ?_
    rotate_left
    · intro w' hSw; (try dsimp only at hSw); first | (go_simp; done) | (go_simp; with_reducible rfl)
    (try simp only [Act.put, List.setIfInBounds_toArray, List.set_cons_zero, List.set_cons_succ])
    refine wpAnyH_take (i := 12) (oi := { dst := some 150, op := Op.extract (Operand.tmp 138) 1, type := 4, pos := "exact.go:6252", after := #[{ on := 10, ground := Ground.data }, { on := 14, ground := Ground.gcOnly Departure.lateStores }], guard := none }) (v := ?_) rfl (by kernel_rfl) (by kernel_rfl) (by kernel_rfl) (fun _ _ _ h => h) (Or.inl ⟨by rfl, ?_⟩) (by assumption) ?_
    rotate_left
    · intro w' hSw; (try dsimp only at hSw); first | (go_simp; done) | (go_simp; with_reducible rfl)
    (try simp only [Act.put, List.setIfInBounds_toArray, List.set_cons_zero, List.set_cons_succ])
    refine wpAnyH_ready (rs := [14]) (by kernel_rfl) (by simp) ?_
    refine AllReadyH.cons (o := { dst := none, op := Op.store 40 (Operand.tmp 23) (Operand.tmp 149), type := 0, pos := "exact.go:6252", after := #[{ on := 13, ground := Ground.data }, { on := 11, ground := Ground.data }, { on := 9, ground := Ground.chain }, { on := 0, ground := Ground.phase }, { on := 1, ground := Ground.phase }, { on := 2, ground := Ground.phase }, { on := 3, ground := Ground.phase }, { on := 4, ground := Ground.phase }, { on := 5, ground := Ground.phase }, { on := 6, ground := Ground.phase }, { on := 7, ground := Ground.phase }, { on := 8, ground := Ground.phase }, { on := 9, ground := Ground.phase }, { on := 10, ground := Ground.phase }, { on := 11, ground := Ground.phase }, { on := 12, ground := Ground.textOnly Departure.lateStores }, { on := 13, ground := Ground.phase }], guard := none }) rfl (fun K hK => ?_) AllReadyH.nil
    obtain ⟨r0, r1, r2, r3, r4⟩ := cells5 XD.out
    obtain ⟨t0, t1, t2, t3, t4⟩ := froz5 XD.out
    go_simp
    clear hHeld
    refine hK.out _ _ ?_ (fun hHeld => ?_)
    · (try dsimp only); exact ⟨cell_five (kc KK.out BB.out) (by have h1 : p < w.heap.size := cell_lt KK.out; have h2 := HDW.out; omega), cell_five (kc KN.out BB.out) (by have h1 : q < w.heap.size := cell_lt KN.out; have h2 := HDW.out; omega)⟩
    clear hK K
    (try simp only [Act.put, List.setIfInBounds_toArray, List.set_cons_zero, List.set_cons_succ])
    refine wpAnyH_take (i := 15) (oi := { dst := some 24, op := Op.assign (Operand.tmp 150), type := 4, pos := "exact.go:6252", after := #[{ on := 12, ground := Ground.data }, { on := 14, ground := Ground.chain }, { on := 0, ground := Ground.phase }, { on := 1, ground := Ground.phase }, { on := 2, ground := Ground.phase }, { on := 3, ground := Ground.phase }, { on := 4, ground := Ground.phase }, { on := 5, ground := Ground.phase }, { on := 6, ground := Ground.phase }, { on := 7, ground := Ground.phase }, { on := 8, ground := Ground.phase }, { on := 9, ground := Ground.phase }, { on := 10, ground := Ground.phase }, { on := 11, ground := Ground.phase }, { on := 12, ground := Ground.phase }, { on := 13, ground := Ground.phase }, { on := 14, ground := Ground.phase }], guard := none }) (v := ?_) rfl (by kernel_rfl) (by kernel_rfl) (by kernel_rfl) (fun _ _ _ h => h) (Or.inl ⟨by rfl, ?_⟩) (by assumption) ?_
    rotate_left
    · intro w' hSw; (try dsimp only at hSw); first | (go_simp; done) | (go_simp; with_reducible rfl)
    (try simp only [Act.put, List.setIfInBounds_toArray, List.set_cons_zero, List.set_cons_succ])
    refine wpAnyH_done (by kernel_rfl) ?_ _
    exact NoPanic.normal (HQ.out _ _ _ _ _ _ _ _ _ _ _ _ _ gD ma da mb db mc dc_ ya yb yc _ HDW.out XD.out HX.out BB.out)
  refine AllReadyH.cons (o := { dst := some 23, op := Op.alloc 40, type := 0, pos := "exact.go:6252", after := #[], guard := none }) rfl (fun K hK => ?_) AllReadyH.nil
  go_simp
  have hb : Below wd.heap.size wd (wd.alloc (.cells #[.slice none 0 0, .slice none 0 0, .slice none 0 0, .int .i64 0, .int .i64 0] 40)) := (Below.refl _ _).alloc (Nat.le_refl _) _
  obtain ⟨gD, hgD⟩ : ∃ g, g = wd.heap.size := ⟨_, rfl⟩
  have XD := Lib.hid (show Ret.Blk (wd.alloc (.cells #[.slice none 0 0, .slice none 0 0, .slice none 0 0, .int .i64 0, .int .i64 0] 40)) gD (dc (.slice none 0 0) (.slice none 0 0) (.slice none 0 0) 0 0) 40 from by rw [hgD]; exact Ret.Blk.new wd _ _)
  have HDW := Lib.hid (show w.heap.size ≤ gD from by rw [hgD]; exact BB.out.size)
  (first | replace HX := Lib.hid (show kD.In w.heap.size (wd.alloc (.cells #[.slice none 0 0, .slice none 0 0, .slice none 0 0, .int .i64 0, .int .i64 0] 40)).heap.size (wd.alloc (.cells #[.slice none 0 0, .slice none 0 0, .slice none 0 0, .int .i64 0, .int .i64 0] 40)) (.agg #[.slice ya ma da, .slice yb mb db, .slice yc mc dc_, .int .i64 (sgK l0 l1 l2 l3 a4).2.2.2.1, .int .i64 (sgK l0 l1 l2 l3 a4).2.2.2.2]) (sgK l0 l1 l2 l3 a4) from Kd.In.mono (Kd.In.on HX.out hb) (Nat.le_refl _) hb.size) | skip)
  rw [← hgD]
  clear hgD
  replace BB := Lib.hid (BB.out.trans (hb.mono BB.out.size))
  clear hb
  generalize wd.alloc (.cells #[.slice none 0 0, .slice none 0 0, .slice none 0 0, .int .i64 0, .int .i64 0] 40) = wn26 at *
  clear hHeld
  refine hK.out _ _ ?_ (fun hHeld => ?_)
  · (try dsimp only); exact ⟨kc KK.out BB.out, kc KN.out BB.out⟩
  clear hK K
  (try simp only [Act.put, List.setIfInBounds_toArray, List.set_cons_zero, List.set_cons_succ])
  refine wpAnyH_ready (rs := [1]) (by kernel_rfl) (by simp) ?_
  refine AllReadyH.cons (o := { dst := some 140, op := Op.call { callee := Callee.value (Operand.func 12), args := #[Operand.tmp 139], argTypes := #[22] }, type := 25, pos := "exact.go:6252", after := #[{ on := 0, ground := Ground.data }], guard := none }) rfl (fun K hK => ?_) AllReadyH.nil
  go_simp
  refine (toKK _ l0 _ (H0.out.on BB.out) (by omega)).mono ?_
  rintro e wn27 ⟨v, rfl, ho, hb⟩
  obtain ⟨xA, nA, cA, rfl, ho⟩ := kK_shape ho
  have HA := Lib.hid ho.at; clear ho
  replace XD := Lib.hid (XD.out.on hb)
  replace BB := Lib.hid (BB.out.trans (hb.mono BB.out.size))
  clear hb
  (try go_wp2_with fail)
  clear hHeld
  refine hK.out _ _ ?_ (fun hHeld => ?_)
  · (try dsimp only); exact ⟨kc KK.out BB.out, kc KN.out BB.out⟩
  clear hK K
  (try simp only [Act.put, List.setIfInBounds_toArray, List.set_cons_zero, List.set_cons_succ])
  refine wpAnyH_ready (rs := [3]) (by kernel_rfl) (by simp) ?_
  refine AllReadyH.cons (o := { dst := some 142, op := Op.call { callee := Callee.value (Operand.func 17), args := #[Operand.tmp 141], argTypes := #[31] }, type := 34, pos := "exact.go:6252", after := #[{ on := 2, ground := Ground.data }, { on := 1, ground := Ground.chain }], guard := none }) rfl (fun K hK => ?_) AllReadyH.nil
  go_simp
  refine (toNK _ l1 _ (H1.out.on BB.out) (by have := Row.bulk_len l1; omega)).mono ?_
  rintro e wn28 ⟨v, rfl, ho, hb⟩
  obtain ⟨xB, nB, cB, rfl, ho⟩ := kN_shape ho
  have HBk := Lib.hid ho.at; clear ho
  replace XD := Lib.hid (XD.out.on hb)
  replace HA := Lib.hid (HA.out.on hb)
  replace BB := Lib.hid (BB.out.trans (hb.mono BB.out.size))
  clear hb
  (try go_wp2_with fail)
  clear hHeld
  refine hK.out _ _ ?_ (fun hHeld => ?_)
  · (try dsimp only); exact ⟨kc KK.out BB.out, kc KN.out BB.out⟩
  clear hK K
  (try simp only [Act.put, List.setIfInBounds_toArray, List.set_cons_zero, List.set_cons_succ])
  refine wpAnyH_ready (rs := [5]) (by kernel_rfl) (by simp) ?_
  refine AllReadyH.cons (o := { dst := some 144, op := Op.call { callee := Callee.value (Operand.func 17), args := #[Operand.tmp 143], argTypes := #[31] }, type := 34, pos := "exact.go:6252", after := #[{ on := 4, ground := Ground.data }, { on := 3, ground := Ground.chain }], guard := none }) rfl (fun K hK => ?_) AllReadyH.nil
  go_simp
  refine (toNK _ l2 _ (H2.out.on BB.out) (by have := Row.bulk_len l2; omega)).mono ?_
  rintro e wn29 ⟨v, rfl, ho, hb⟩
  obtain ⟨xC, nC, cC, rfl, ho⟩ := kN_shape ho
  have HC := Lib.hid ho.at; clear ho
  replace XD := Lib.hid (XD.out.on hb)
  replace HA := Lib.hid (HA.out.on hb)
  replace HBk := Lib.hid (HBk.out.on hb)
  replace BB := Lib.hid (BB.out.trans (hb.mono BB.out.size))
  clear hb
  (try go_wp2_with fail)
  clear hHeld
  refine hK.out _ _ ?_ (fun hHeld => ?_)
  · (try dsimp only); exact ⟨kc KK.out BB.out, kc KN.out BB.out⟩
  clear hK K
  (try simp only [Act.put, List.setIfInBounds_toArray, List.set_cons_zero, List.set_cons_succ])
  refine wpAnyH_ready (rs := [7]) (by kernel_rfl) (by simp) ?_
  refine AllReadyH.cons (o := { dst := some 146, op := Op.call { callee := Callee.value (Operand.func 21), args := #[Operand.tmp 145], argTypes := #[38] }, type := 38, pos := "exact.go:6252", after := #[{ on := 6, ground := Ground.data }, { on := 5, ground := Ground.chain }], guard := none }) rfl (fun K hK => ?_) AllReadyH.nil
  go_simp
  refine (toB _ l3 _ (H3.out.on BB.out) (by omega)).mono ?_
  rintro e wn30 ⟨v, rfl, ho, hb⟩
  obtain ⟨xD, nD, cD, rfl, ho⟩ := kB_shape ho
  have HDb := Lib.hid ho.at; clear ho
  replace XD := Lib.hid (XD.out.on hb)
  replace HA := Lib.hid (HA.out.on hb)
  replace HBk := Lib.hid (HBk.out.on hb)
  replace HC := Lib.hid (HC.out.on hb)
  replace BB := Lib.hid (BB.out.trans (hb.mono BB.out.size))
  clear hb
  (try go_wp2_with fail)
  clear hHeld
  refine hK.out _ _ ?_ (fun hHeld => ?_)
  · (try dsimp only); exact ⟨kc KK.out BB.out, kc KN.out BB.out⟩
  clear hK K
  (try simp only [Act.put, List.setIfInBounds_toArray, List.set_cons_zero, List.set_cons_succ])
  refine wpAnyH_ready (rs := [9]) (by kernel_rfl) (by simp) ?_
  refine AllReadyH.cons (o := { dst := some 148, op := Op.call { callee := Callee.value (Operand.func 22), args := #[Operand.tmp 140, Operand.tmp 142, Operand.tmp 144, Operand.tmp 146, Operand.tmp 147], argTypes := #[25, 34, 34, 38, 3] }, type := 41, pos := "exact.go:6252", after := #[{ on := 1, ground := Ground.data }, { on := 3, ground := Ground.data }, { on := 5, ground := Ground.data }, { on := 7, ground := Ground.data }, { on := 8, ground := Ground.data }, { on := 7, ground := Ground.chain }], guard := none }) rfl (fun K hK => ?_) AllReadyH.nil
  go_simp
  refine (implSignWithKeyK _ _ _ _ l0 l1 l2 l3 a4 _ HA.out HBk.out HC.out HDb.out (Sl.byt_of_wf N3.out) (by omega) (by omega) (by omega) (by omega)).mono ?_
  rintro e wn31 ⟨v, rfl, ho, hb⟩
  obtain ⟨ya, ma, da, yb, mb, db, yc, mc, dc_, rfl, ho⟩ := kD_shape ho
  have HX := Lib.hid (show kD.In w.heap.size wn31.heap.size wn31 (.agg #[.slice ya ma da, .slice yb mb db, .slice yc mc dc_, .int .i64 (sgK l0 l1 l2 l3 a4).2.2.2.1, .int .i64 (sgK l0 l1 l2 l3 a4).2.2.2.2]) (sgK l0 l1 l2 l3 a4) from Kd.In.mono ho BB.out.size (Nat.le_refl _)); clear ho
  replace XD := Lib.hid (XD.out.on hb)
  replace HA := Lib.hid (HA.out.on hb)
  replace HBk := Lib.hid (HBk.out.on hb)
  replace HC := Lib.hid (HC.out.on hb)
  replace HDb := Lib.hid (HDb.out.on hb)
  replace BB := Lib.hid (BB.out.trans (hb.mono BB.out.size))
  clear hb
  (try go_wp2_with fail)
  clear hHeld
  refine hK.out _ _ ?_ (fun hHeld => ?_)
  · (try dsimp only); exact ⟨kc KK.out BB.out, kc KN.out BB.out⟩
  clear hK K
  (try simp only [Act.put, List.setIfInBounds_toArray, List.set_cons_zero, List.set_cons_succ])
  refine wpAnyH_take (i := 10) (oi := { dst := some 138, op := Op.move (Operand.tmp 148), type := 41, pos := "exact.go:6252", after := #[{ on := 9, ground := Ground.data }], guard := none }) (v := ?_) rfl (by kernel_rfl) (by kernel_rfl) (by kernel_rfl) (fun _ _ _ h => h) (Or.inl ⟨by rfl, ?_⟩) (by assumption) ?_
  rotate_left
  · intro w' hSw; (try dsimp only at hSw); first | (go_simp; done) | (go_simp; with_reducible rfl)
  (try simp only [Act.put, List.setIfInBounds_toArray, List.set_cons_zero, List.set_cons_succ])
  refine wpAnyH_take (i := 11) (oi := { dst := some 149, op := Op.extract (Operand.tmp 138) 0, type := 40, pos := "exact.go:6252", after := #[{ on := 10, ground := Ground.data }], guard := none }) (v := ?_) rfl (by kernel_rfl) (by kernel_rfl) (by kernel_rfl) (fun _ _ _ h => h) (Or.inl ⟨by rfl, ?_⟩) (by assumption) ?_
  rotate_left
  · intro w' hSw; (try dsimp only at hSw); first | (go_simp; done) | (go_simp; with_reducible rfl)
  (try simp only [Act.put, List.setIfInBounds_toArray, List.set_cons_zero, List.set_cons_succ])
  refine wpAnyH_take (i := 12) (oi := { dst := some 150, op := Op.extract (Operand.tmp 138) 1, type := 4, pos := "exact.go:6252", after := #[{ on := 10, ground := Ground.data }, { on := 14, ground := Ground.gcOnly Departure.lateStores }], guard := none }) (v := ?_) rfl (by kernel_rfl) (by kernel_rfl) (by kernel_rfl) (fun _ _ _ h => h) (Or.inl ⟨by rfl, ?_⟩) (by assumption) ?_
  rotate_left
  · intro w' hSw; (try dsimp only at hSw); first | (go_simp; done) | (go_simp; with_reducible rfl)
  (try simp only [Act.put, List.setIfInBounds_toArray, List.set_cons_zero, List.set_cons_succ])
  refine wpAnyH_ready (rs := [14]) (by kernel_rfl) (by simp) ?_
  refine AllReadyH.cons (o := { dst := none, op := Op.store 40 (Operand.tmp 23) (Operand.tmp 149), type := 0, pos := "exact.go:6252", after := #[{ on := 13, ground := Ground.data }, { on := 11, ground := Ground.data }, { on := 9, ground := Ground.chain }, { on := 0, ground := Ground.phase }, { on := 1, ground := Ground.phase }, { on := 2, ground := Ground.phase }, { on := 3, ground := Ground.phase }, { on := 4, ground := Ground.phase }, { on := 5, ground := Ground.phase }, { on := 6, ground := Ground.phase }, { on := 7, ground := Ground.phase }, { on := 8, ground := Ground.phase }, { on := 9, ground := Ground.phase }, { on := 10, ground := Ground.phase }, { on := 11, ground := Ground.phase }, { on := 12, ground := Ground.textOnly Departure.lateStores }, { on := 13, ground := Ground.phase }], guard := none }) rfl (fun K hK => ?_) AllReadyH.nil
  obtain ⟨r0, r1, r2, r3, r4⟩ := cells5 XD.out
  obtain ⟨t0, t1, t2, t3, t4⟩ := froz5 XD.out
  go_simp
  clear hHeld
  refine hK.out _ _ ?_ (fun hHeld => ?_)
  · (try dsimp only); exact ⟨cell_five (kc KK.out BB.out) (by have h1 : p < w.heap.size := cell_lt KK.out; have h2 := HDW.out; omega), cell_five (kc KN.out BB.out) (by have h1 : q < w.heap.size := cell_lt KN.out; have h2 := HDW.out; omega)⟩
  clear hK K
  (try simp only [Act.put, List.setIfInBounds_toArray, List.set_cons_zero, List.set_cons_succ])
  refine wpAnyH_take (i := 15) (oi := { dst := some 24, op := Op.assign (Operand.tmp 150), type := 4, pos := "exact.go:6252", after := #[{ on := 12, ground := Ground.data }, { on := 14, ground := Ground.chain }, { on := 0, ground := Ground.phase }, { on := 1, ground := Ground.phase }, { on := 2, ground := Ground.phase }, { on := 3, ground := Ground.phase }, { on := 4, ground := Ground.phase }, { on := 5, ground := Ground.phase }, { on := 6, ground := Ground.phase }, { on := 7, ground := Ground.phase }, { on := 8, ground := Ground.phase }, { on := 9, ground := Ground.phase }, { on := 10, ground := Ground.phase }, { on := 11, ground := Ground.phase }, { on := 12, ground := Ground.phase }, { on := 13, ground := Ground.phase }, { on := 14, ground := Ground.phase }], guard := none }) (v := ?_) rfl (by kernel_rfl) (by kernel_rfl) (by kernel_rfl) (fun _ _ _ h => h) (Or.inl ⟨by rfl, ?_⟩) (by assumption) ?_
  rotate_left
  · intro w' hSw; (try dsimp only at hSw); first | (go_simp; done) | (go_simp; with_reducible rfl)
  (try simp only [Act.put, List.setIfInBounds_toArray, List.set_cons_zero, List.set_cons_succ])
  refine wpAnyH_done (by kernel_rfl) ?_ _
  exact NoPanic.normal (HQ.out _ _ _ _ _ _ _ _ _ _ _ _ _ gD ma da mb db mc dc_ ya yb yc _ HDW.out XD.out HX.out BB.out)

set_option maxRecDepth 100000 in
set_option maxHeartbeats 4000000 in
theorem implSW {Q : Exit → Act → World → Prop} {v1 v2 v5 v8 v9 v10 v11 v12 v13 v14 v15 v16 v17 v18 v19 v20 v21 v22 v23 v24 v25 v26 v27 v28 v29 v30 v31 v32 v33 v34 v35 v36 v37 v38 v39 v40 v41 v42 v43 v44 v45 v46 v47 v48 v49 v50 v51 v52 v53 v54 v55 v56 v57 v58 v59 v60 v61 v62 v63 v64 v65 v66 v67 v68 v69 v70 v71 v72 v73 v74 v75 v76 v77 v78 v79 v80 v81 v82 v83 v84 v85 v86 v87 v88 v89 v90 v91 v92 v93 v94 v95 v96 v97 v98 v99 v100 v101 v102 v103 v104 v105 v106 v107 v108 v109 v110 v111 v112 v113 v114 v115 v116 v117 v118 v119 v120 v121 v122 v123 v124 v125 v126 v127 v128 v129 v130 v131 v132 v133 v134 v135 v136 v137 v138 v139 v140 v141 v142 v143 v144 v145 v146 v147 v148 v149 v150 v151 v152 v153 v154 v155 v156 v157 v158 v159 v160 v161 v162 v163 v164 v165 v166 v167 : Value} {w : World} {p q nl cl nk ck nn cn nb cb : Nat} {xl xk xn xb : Option Addr} {l0 : Kt} {l1 l2 : List ByteArray} {l3 : List Int} {a4 : Int} (H0 : Hid (kK.At w (.slice xl nl cl) l0)) (H1 : Hid (kN.At w (.agg #[.slice xk nk ck]) l1)) (H2 : Hid (kN.At w (.agg #[.slice xn nn cn]) l2)) (H3 : Hid (kB.At w (.slice xb nb cb) l3)) (N0 : Hid (∀ t ∈ l0, t.1.length ≤ 9223372036854775807 ∧ (∀ x ∈ t.1, x.size ≤ maxLen) ∧ (Lit.int .i64 t.2).wf = true)) (N3 : Hid (∀ x ∈ l3, (Lit.int .u8 x).wf = true)) (Z0 : bulkT l0 ≤ 1048576) (Z1 : bulk l1 ≤ 1048576) (Z2 : bulk l2 ≤ 1048576) (Z3 : l3.length ≤ 1048576) (KK : Hid (w.cell? ⟨p, 0, none⟩ = some (.slice xk nk ck))) (KN : Hid (w.cell? ⟨q, 0, none⟩ = some (.slice xn nn cn)))
    (hQ : ∀ (u138 u139 u140 u141 u142 u143 u144 u145 u146 u147 u148 u149 u150 : Value) (gD ma da mb db mc dc_ : Nat) (ya yb yc : Option Addr) (w2 : World), Below w.heap.size w w2 → kD.In w.heap.size w2.heap.size w2 (.agg #[.slice ya ma da, .slice yb mb db, .slice yc mc dc_, .int .i64 (sgK l0 l1 l2 l3 a4).2.2.2.1, .int .i64 (sgK l0 l1 l2 l3 a4).2.2.2.2]) (sgK l0 l1 l2 l3 a4) → Ret.Blk w2 gD #[.slice ya ma da, .slice yb mb db, .slice yc mc dc_, .int .i64 (sgK l0 l1 l2 l3 a4).2.2.2.1, .int .i64 (sgK l0 l1 l2 l3 a4).2.2.2.2] 40 → w.heap.size ≤ gD → gD < w2.heap.size → Q .normal ⟨#[.slice xl nl cl, v1, v2, .slice xb nb cb, .int .i64 a4, v5, .pointer (some ⟨p, 0, none⟩), .pointer (some ⟨q, 0, none⟩), v8, v9, v10, v11, v12, v13, v14, v15, v16, v17, v18, v19, v20, v21, v22, .pointer (some ⟨gD, 0, none⟩), .bool (sgOk l0 l1 l2 l3 a4), v25, v26, v27, v28, v29, v30, v31, v32, v33, v34, v35, v36, v37, v38, v39, v40, v41, v42, v43, v44, v45, v46, v47, v48, v49, v50, v51, v52, v53, v54, v55, v56, v57, v58, v59, v60, v61, v62, v63, v64, v65, v66, v67, v68, v69, v70, v71, v72, v73, v74, v75, v76, v77, v78, v79, v80, v81, v82, v83, v84, v85, v86, v87, v88, v89, v90, v91, v92, v93, v94, v95, v96, v97, v98, v99, v100, v101, v102, v103, v104, v105, v106, v107, v108, v109, v110, v111, v112, v113, v114, v115, v116, v117, v118, v119, v120, v121, v122, v123, v124, v125, v126, v127, v128, v129, v130, v131, v132, v133, v134, v135, v136, v137, u138, u139, u140, u141, u142, u143, u144, u145, u146, u147, u148, u149, u150, v151, v152, v153, v154, v155, v156, v157, v158, v159, v160, v161, v162, v163, v164, v165, v166, v167], []⟩ w2) :
    (Code.region 44 #[{ dst := some 139, op := Op.move (Operand.tmp 0), type := 22, pos := "exact.go:6252", after := #[], guard := none },
      { dst := some 140, op := Op.call { callee := Callee.value (Operand.func 12), args := #[Operand.tmp 139], argTypes := #[22] }, type := 25, pos := "exact.go:6252", after := #[{ on := 0, ground := Ground.data }], guard := none },
      { dst := some 141, op := Op.load 31 (Operand.tmp 6), type := 31, pos := "exact.go:6252", after := #[], guard := none },
      { dst := some 142, op := Op.call { callee := Callee.value (Operand.func 17), args := #[Operand.tmp 141], argTypes := #[31] }, type := 34, pos := "exact.go:6252", after := #[{ on := 2, ground := Ground.data }, { on := 1, ground := Ground.chain }], guard := none },
      { dst := some 143, op := Op.load 31 (Operand.tmp 7), type := 31, pos := "exact.go:6252", after := #[], guard := none },
      { dst := some 144, op := Op.call { callee := Callee.value (Operand.func 17), args := #[Operand.tmp 143], argTypes := #[31] }, type := 34, pos := "exact.go:6252", after := #[{ on := 4, ground := Ground.data }, { on := 3, ground := Ground.chain }], guard := none },
      { dst := some 145, op := Op.move (Operand.tmp 3), type := 38, pos := "exact.go:6252", after := #[], guard := none },
      { dst := some 146, op := Op.call { callee := Callee.value (Operand.func 21), args := #[Operand.tmp 145], argTypes := #[38] }, type := 38, pos := "exact.go:6252", after := #[{ on := 6, ground := Ground.data }, { on := 5, ground := Ground.chain }], guard := none },
      { dst := some 147, op := Op.move (Operand.tmp 4), type := 3, pos := "exact.go:6252", after := #[], guard := none },
      { dst := some 148, op := Op.call { callee := Callee.value (Operand.func 22), args := #[Operand.tmp 140, Operand.tmp 142, Operand.tmp 144, Operand.tmp 146, Operand.tmp 147], argTypes := #[25, 34, 34, 38, 3] }, type := 41, pos := "exact.go:6252", after := #[{ on := 1, ground := Ground.data }, { on := 3, ground := Ground.data }, { on := 5, ground := Ground.data }, { on := 7, ground := Ground.data }, { on := 8, ground := Ground.data }, { on := 7, ground := Ground.chain }], guard := none },
      { dst := some 138, op := Op.move (Operand.tmp 148), type := 41, pos := "exact.go:6252", after := #[{ on := 9, ground := Ground.data }], guard := none },
      { dst := some 149, op := Op.extract (Operand.tmp 138) 0, type := 40, pos := "exact.go:6252", after := #[{ on := 10, ground := Ground.data }], guard := none },
      { dst := some 150, op := Op.extract (Operand.tmp 138) 1, type := 4, pos := "exact.go:6252", after := #[{ on := 10, ground := Ground.data }, { on := 14, ground := Ground.gcOnly Departure.lateStores }], guard := none },
      { dst := some 23, op := Op.alloc 40, type := 0, pos := "exact.go:6252", after := #[], guard := none },
      { dst := none, op := Op.store 40 (Operand.tmp 23) (Operand.tmp 149), type := 0, pos := "exact.go:6252", after := #[{ on := 13, ground := Ground.data }, { on := 11, ground := Ground.data }, { on := 9, ground := Ground.chain }, { on := 0, ground := Ground.phase }, { on := 1, ground := Ground.phase }, { on := 2, ground := Ground.phase }, { on := 3, ground := Ground.phase }, { on := 4, ground := Ground.phase }, { on := 5, ground := Ground.phase }, { on := 6, ground := Ground.phase }, { on := 7, ground := Ground.phase }, { on := 8, ground := Ground.phase }, { on := 9, ground := Ground.phase }, { on := 10, ground := Ground.phase }, { on := 11, ground := Ground.phase }, { on := 12, ground := Ground.textOnly Departure.lateStores }, { on := 13, ground := Ground.phase }], guard := none },
      { dst := some 24, op := Op.assign (Operand.tmp 150), type := 4, pos := "exact.go:6252", after := #[{ on := 12, ground := Ground.data }, { on := 14, ground := Ground.chain }, { on := 0, ground := Ground.phase }, { on := 1, ground := Ground.phase }, { on := 2, ground := Ground.phase }, { on := 3, ground := Ground.phase }, { on := 4, ground := Ground.phase }, { on := 5, ground := Ground.phase }, { on := 6, ground := Ground.phase }, { on := 7, ground := Ground.phase }, { on := 8, ground := Ground.phase }, { on := 9, ground := Ground.phase }, { on := 10, ground := Ground.phase }, { on := 11, ground := Ground.phase }, { on := 12, ground := Ground.phase }, { on := 13, ground := Ground.phase }, { on := 14, ground := Ground.phase }], guard := none }] true).wp Try.prog Q ⟨#[.slice xl nl cl, v1, v2, .slice xb nb cb, .int .i64 a4, v5, .pointer (some ⟨p, 0, none⟩), .pointer (some ⟨q, 0, none⟩), v8, v9, v10, v11, v12, v13, v14, v15, v16, v17, v18, v19, v20, v21, v22, v23, v24, v25, v26, v27, v28, v29, v30, v31, v32, v33, v34, v35, v36, v37, v38, v39, v40, v41, v42, v43, v44, v45, v46, v47, v48, v49, v50, v51, v52, v53, v54, v55, v56, v57, v58, v59, v60, v61, v62, v63, v64, v65, v66, v67, v68, v69, v70, v71, v72, v73, v74, v75, v76, v77, v78, v79, v80, v81, v82, v83, v84, v85, v86, v87, v88, v89, v90, v91, v92, v93, v94, v95, v96, v97, v98, v99, v100, v101, v102, v103, v104, v105, v106, v107, v108, v109, v110, v111, v112, v113, v114, v115, v116, v117, v118, v119, v120, v121, v122, v123, v124, v125, v126, v127, v128, v129, v130, v131, v132, v133, v134, v135, v136, v137, v138, v139, v140, v141, v142, v143, v144, v145, v146, v147, v148, v149, v150, v151, v152, v153, v154, v155, v156, v157, v158, v159, v160, v161, v162, v163, v164, v165, v166, v167], []⟩ w := by
  refine implSW0 H0 H1 H2 H3 N0 N3 Z0 Z1 Z2 Z3 KK KN ?_
  intro u138 u139 u140 u141 u142 u143 u144 u145 u146 u147 u148 u149 u150 gD ma da mb db mc dc_ ya yb yc wx hgd hxd hin hb
  obtain ⟨h1, h2, h3, h4⟩ := five_facts hgd hxd hin hb
  exact hQ _ _ _ _ _ _ _ _ _ _ _ _ _ _ _ _ _ _ _ _ _ _ _ _ h1 h2 h3 hgd h4

end Go.Proofs.Ytnblopilgfdjkaa.Row.Ring
/- A slice of numbers that came in as an argument: it holds a list, its numbers fit their kind, its length is within the reach. No conditions. -/
namespace Go.Proofs.Ytnblopilgfdjkaa.Sl
open Go.ChangeShapes Go.WideShapes Go.ChangeAt Go.RowKit

theorem open_holds {H : Type} {enc : TypeId × Value → H} {P : Program} {w : World} {base b2 : Nat} {held : Bool} {t e : TypeId} {v : Value} {d : DataW H} {p : List MemPlace} {ts : List TypeId} {ds : List (DataW H)} {j : Nat} {k : IntKind}
    (ht : P.underlying t = some (.slice e)) (he : P.underlying e = some (.int k)) (hc : P.cellsOf e = 1) (hz : 1 ≤ P.bytesOf e) (hv : Value.okWide P w .any base t v)
    (h : DataW.Trod enc P w b2 (fun _ => true) held t v d p) (hsz : (DataW.weightsEach P ts ds).all (· ≤ reachBytes) = true) (htj : ts[j]? = some t) (hdj : ds[j]? = some d) :
    ∃ l, Holds k w v l ∧ (∀ n ∈ l, (Lit.int k n).wf = true) ∧ l.length ≤ 140737488351232 := by
  obtain ⟨a0, len, cap, rfl⟩ := okWide_slice ht hv
  obtain ⟨fuel, hf⟩ := h
  rcases open_ints ht he hc hf with ⟨hcs, hx⟩ | ⟨a, len', cap', zs, hcs, hb, hl, hm, hn, hx, hcell, hwz⟩
  · refine ⟨[], ?_, by simp, by simp⟩
    have : Value.slice a0 len cap = .slice none 0 0 := by simpa [Value.cells] using hcs
    rw [this]; exact Holds.nil k w
  · have hcs' : Value.slice a0 len cap = .slice (some a) len' cap' := by simpa [Value.cells] using hcs
    simp only [Prod.mk.injEq] at hx
    obtain ⟨hd, -⟩ := hx
    subst hd
    have hw := sized_slice hsz htj hdj ht
    simp only [if_true] at hn
    have er : reachBytes = 140737488351232 := by decide
    have hlen : (zs.take len').length = len' := by rw [List.length_take]; omega
    refine ⟨zs.take len', ?_, fun n hnn => hwz n (List.mem_of_mem_take hnn), ?_⟩
    · rw [hcs']
      refine ⟨some a, cap', by rw [hlen], by rw [hlen]; exact hl, ?_⟩
      by_cases h0 : len' = 0
      · left; subst h0; simp
      · right
        obtain ⟨b, off, spot⟩ := a
        have h1 := hcell 0 (by omega)
        have hs : spot = none := by simpa [Addr.add] using World.cell?_spot h1
        subst hs
        refine ⟨b, off, rfl, fun i hi => ?_⟩
        rw [hlen] at hi
        have h2 := hcell i (by omega)
        rw [Go.WideShapes.add_plain] at h2
        rw [h2]
        simp only [nth, List.getD, List.getElem?_take, if_pos hi]
    · rw [hlen]
      have h3 : zs.length * 1 ≤ zs.length * P.bytesOf e := Nat.mul_le_mul_left _ hz
      simp [lits] at hw
      have h4 : len' + (zs.length - len') = zs.length := by omega
      have h5 : min len' zs.length = len' := by omega
      rw [h5, h4] at hw
      omega
end Go.Proofs.Ytnblopilgfdjkaa.Sl
