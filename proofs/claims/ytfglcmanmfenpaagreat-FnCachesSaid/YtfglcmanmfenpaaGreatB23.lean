/- Contracts and mathematics, joined: DrawT4. No conditions but those that each states. -/
import Derived.Test.YtfglcmanmfenpaaGreatB22
import Derived.WalkKit
import Derived.Deep.RegionHeld3
/- The regions of the model's draw of data packets. What was in memory stays as it was, but for the cursor. -/
namespace Go.Proofs.YtfglcmanmfenpaaGreat.Draw
open Go.ChangeShapes Go.WideShapes Go.ChangeAt Go.RowKit Go.Instr
open Go.Proofs.YtfglcmanmfenpaaGreat.Row (bulk bulk_append bulk_one bulk_nil bulk_cons Dt dc aggD bulkD advD WfD DHold DOwn)
open Go.Proofs.YtfglcmanmfenpaaGreat.Ret (NC Blk Box)
set_option linter.unusedVariables false
set_option maxRecDepth 100000
theorem twice {G P : Prop} (h : Hid G → P) (g : G) : P := h (Lib.hid g)
set_option maxRecDepth 100000 in
set_option maxHeartbeats 4000000 in
theorem dr4 {Q : Exit → Act → World → Prop} {v1 v2 v4 v5 v6 v7 v8 v9 v10 v11 v12 v13 v14 v15 v16 v17 v18 v19 v20 v21 v22 v23 v24 v25 v26 v27 v28 v29 : Value} {w : World} {w0 : World} {p : Nat} {v : Value} {l : List UInt8} (C0 : Hid (Cur w0 p v l w)) {q na ca BN : Nat} {xa : Option Addr} {la : List ByteArray} (XN : Hid (Box w q (.slice xa na ca) 29)) (ON : Hid (Row.Own 9 Value.string BN w (.slice xa na ca) la)) (HQP : Hid (q ≠ p)) (HPN : Hid (p < BN))
  (hQ : ∀ (u13 u14 u15 u16 u17 u18 u19 u20 u21 u22 u23 u24 u25 : Value) (gD nb cb nc cc : Nat) (xb xc : Option Addr) (lb : List Int) (lc : List ByteArray) (r60 : Int) (wx : World), w.heap.size ≤ gD → gD ≠ p → Blk wx gD (dc (.slice none 0 0) (.slice none 0 0) (.slice none 0 0) 0 0) 31 → Row.Own 9 Value.string BN wx (.slice xa na ca) la → Sl.Own 5 .u8 w.heap.size wx (.slice xb nb cb) lb → Row.Holds Value.string wx (.slice xc nc cc) lc → Sl.Byt lb → lb.length ≤ 4 → bulk lc ≤ 60 → 0 ≤ r60 → r60 < 60 → Cur w0 p v l wx → Keep p w wx → Q .normal ⟨#[.pointer (some ⟨p, 0, none⟩), v1, v2, .pointer (some ⟨q, 0, none⟩), .pointer (some ⟨gD, 0, none⟩), v5, v6, v7, v8, v9, v10, v11, v12, u13, u14, u15, u16, u17, u18, u19, u20, u21, u22, u23, u24, u25, v26, v27, v28, v29], []⟩ (((((wx.setCell ⟨gD, 0, none⟩ (.slice xa na ca)).setCell ⟨gD, 1, none⟩ (.slice xb nb cb)).setCell ⟨gD, 2, none⟩ (.slice xc nc cc)).setCell ⟨gD, 3, none⟩ (.int .i64 (40 + r60))).setCell ⟨gD, 4, none⟩ (.int .i64 0))) :
  (Code.region 4 #[⟨some 13, .load 29 (.tmp 3), 29, "l08_thing.go:74", #[], none⟩,
   ⟨some 14, .move (.tmp 0), 55, "l08_thing.go:74", #[], none⟩,
   ⟨some 15, .move (.tmp 0), 55, "l08_thing.go:74", #[], none⟩,
   ⟨some 16, .call ⟨.value (.func 33), #[.tmp 15, .const (Value.int IntKind.i64 5)], #[55, 3]⟩, 3, "l08_thing.go:74", #[⟨2, .data⟩], none⟩,
   ⟨some 17, .call ⟨.value (.func 86), #[.tmp 14, .tmp 16], #[55, 3]⟩, 22, "l08_thing.go:74", #[⟨1, .data⟩, ⟨3, .data⟩, ⟨3, .chain⟩], none⟩,
   ⟨some 18, .move (.tmp 0), 55, "l08_thing.go:74", #[], none⟩,
   ⟨some 19, .buildSlice 27 3 #[(0, .const (Value.string { data := #[47, 107, 101, 121, 47, 97] })), (1, .const (Value.string { data := #[47, 107, 101, 121, 47, 98] })), (2, .const (Value.string { data := #[47, 97, 47, 107, 101, 121] }))], 27, "l08_thing.go:74", #[], none⟩,
   ⟨some 20, .call ⟨.value (.func 88), #[.tmp 18, .tmp 19], #[55, 27]⟩, 9, "l08_thing.go:74", #[⟨5, .data⟩, ⟨6, .data⟩, ⟨4, .chain⟩], none⟩,
   ⟨some 21, .call ⟨.value (.func 87), #[.tmp 20], #[9]⟩, 29, "l08_thing.go:74", #[⟨7, .data⟩, ⟨7, .chain⟩], none⟩,
   ⟨some 22, .move (.tmp 0), 55, "l08_thing.go:74", #[], none⟩,
   ⟨some 23, .call ⟨.value (.func 33), #[.tmp 22, .const (Value.int IntKind.i64 60)], #[55, 3]⟩, 3, "l08_thing.go:74", #[⟨9, .data⟩, ⟨8, .chain⟩], none⟩,
   ⟨some 24, .binOp BinOp.add 3 (.const (Value.int IntKind.i64 40)) (.tmp 23) 3, 3, "l08_thing.go:74", #[⟨10, .data⟩], none⟩,
   ⟨some 25, .build 31 #[(0, .tmp 13), (1, .tmp 17), (2, .tmp 21), (3, .tmp 24)], 31, "l08_thing.go:74", #[⟨0, .data⟩, ⟨4, .data⟩, ⟨8, .data⟩, ⟨11, .data⟩], none⟩,
   ⟨some 4, .alloc 31, 0, "l08_thing.go:74", #[], none⟩,
   ⟨none, .store 31 (.tmp 4) (.tmp 25), 0, "l08_thing.go:74", #[⟨13, .data⟩, ⟨12, .data⟩, ⟨10, .chain⟩, ⟨0, .phase⟩, ⟨1, .phase⟩, ⟨2, .phase⟩, ⟨3, .phase⟩, ⟨4, .phase⟩, ⟨5, .phase⟩, ⟨6, .phase⟩, ⟨7, .phase⟩, ⟨8, .phase⟩, ⟨9, .phase⟩, ⟨10, .phase⟩, ⟨11, .phase⟩, ⟨12, .phase⟩, ⟨13, .phase⟩], none⟩] true).wp Tryz.prog Q ⟨#[.pointer (some ⟨p, 0, none⟩), v1, v2, .pointer (some ⟨q, 0, none⟩), v4, v5, v6, v7, v8, v9, v10, v11, v12, v13, v14, v15, v16, v17, v18, v19, v20, v21, v22, v23, v24, v25, v26, v27, v28, v29], []⟩ w := by
 have HQ := Lib.hid hQ; clear hQ
 have CP := Lib.hid C0.out.lt
 have HQL := Lib.hid XN.out.lt
 apply twice; intro T1
 apply twice; intro T2
 apply twice; intro T3
 apply twice; intro T4
 apply twice; intro T5
 apply twice; intro T6
 apply twice; intro T7
 apply twice; intro T8
 apply twice; intro T9
 apply twice; intro T10
 ·
  have hb : Below w.heap.size w w.drew := (Below.refl _ _).drew
  replace XN := Lib.hid (XN.out.on hb)
  replace ON := Lib.hid (ON.out.on hb)
  have C := Lib.hid (C0.out.on hb)
  have BK := Lib.hid (Keep.of_below (p := p) hb)
  have BS := Lib.hid (show w.heap.size ≤ w.drew.heap.size from hb.size)
  clear hb
  refine wp_region_noPanic ?_
  refine wp_region_held_drew (S := (fun w' => w'.cell? ⟨q, 0, none⟩ = some (.slice xa na ca))) (by kernel_rfl) ?_ (fun hHeld => ?_)
  ·
   exact XN.out.cell
  generalize w.drew = wd at *
  refine wpAnyH_take (i := 0) (oi := ⟨some 13, .load 29 (.tmp 3), 29, "l08_thing.go:74", #[], none⟩) (v := ?_) rfl (by kernel_rfl) (by kernel_rfl) (by kernel_rfl) (fun _ _ _ h => h) (Or.inl ⟨by rfl, ?_⟩) (by assumption) ?_
  rotate_left
  ·
   intro w' hSw; (try dsimp only at hSw); first | (go_simp; done) | (go_simp; with_reducible rfl)
  (try simp only [Act.put, Row.pB0, Row.pB1, Row.pB2])
  refine wpAnyH_take (i := 1) (oi := ⟨some 14, .move (.tmp 0), 55, "l08_thing.go:74", #[], none⟩) (v := ?_) rfl (by kernel_rfl) (by kernel_rfl) (by kernel_rfl) (fun _ _ _ h => h) (Or.inl ⟨by rfl, ?_⟩) (by assumption) ?_
  rotate_left
  ·
   intro w' hSw; (try dsimp only at hSw); first | (go_simp; done) | (go_simp; with_reducible rfl)
  (try simp only [Act.put, Row.pB0, Row.pB1, Row.pB2])
  refine wpAnyH_take (i := 2) (oi := ⟨some 15, .move (.tmp 0), 55, "l08_thing.go:74", #[], none⟩) (v := ?_) rfl (by kernel_rfl) (by kernel_rfl) (by kernel_rfl) (fun _ _ _ h => h) (Or.inl ⟨by rfl, ?_⟩) (by assumption) ?_
  rotate_left
  ·
   intro w' hSw; (try dsimp only at hSw); first | (go_simp; done) | (go_simp; with_reducible rfl)
  (try simp only [Act.put, Row.pB0, Row.pB1, Row.pB2])
  refine wpAnyH_take (i := 5) (oi := ⟨some 18, .move (.tmp 0), 55, "l08_thing.go:74", #[], none⟩) (v := ?_) rfl (by kernel_rfl) (by kernel_rfl) (by kernel_rfl) (fun _ _ _ h => h) (Or.inl ⟨by rfl, ?_⟩) (by assumption) ?_
  rotate_left
  ·
   intro w' hSw; (try dsimp only at hSw); first | (go_simp; done) | (go_simp; with_reducible rfl)
  (try simp only [Act.put, Row.pB0, Row.pB1, Row.pB2])
  refine wpAnyH_take (i := 9) (oi := ⟨some 22, .move (.tmp 0), 55, "l08_thing.go:74", #[], none⟩) (v := ?_) rfl (by kernel_rfl) (by kernel_rfl) (by kernel_rfl) (fun _ _ _ h => h) (Or.inl ⟨by rfl, ?_⟩) (by assumption) ?_
  rotate_left
  ·
   intro w' hSw; (try dsimp only at hSw); first | (go_simp; done) | (go_simp; with_reducible rfl)
  (try simp only [Act.put, Row.pB0, Row.pB1, Row.pB2])
  refine wpAnyH_ready (rs := [3, 6, 13]) (by kernel_rfl) (by simp) ?_
  refine AllReadyH.cons (o := ⟨some 16, .call ⟨.value (.func 33), #[.tmp 15, .const (Value.int IntKind.i64 5)], #[55, 3]⟩, 3, "l08_thing.go:74", #[⟨2, .data⟩], none⟩) rfl (fun K hK => ?_) ?_
  ·
   go_simp
   refine (below w0 p v l _ 5 C.out).mono ?_
   rintro e wn1 ⟨y, rfl, ⟨r5, rfl, hr, -⟩, hc, hk⟩
   replace hr := hr (by omega)
   obtain ⟨k5, rfl⟩ := Int.eq_ofNat_of_zero_le hr.1
   have HK5 := Lib.hid (show k5 ≤ 4 by omega)
   clear hr
   replace XN := Lib.hid (box_keep XN.out hk HQP.out)
   replace ON := Lib.hid (rown_keep ON.out hk HPN.out)
   replace C := Lib.hid hc; replace BK := Lib.hid (BK.out.trans hk); replace BS := Lib.hid (Nat.le_trans BS.out hk.size); clear hc hk
   (try go_wp2_with fail)
   clear hHeld
   refine hK.out _ _ ?_ (fun hHeld => ?_)
   ·
    (try dsimp only); exact XN.out.cell
   clear hK K
   (try simp only [Act.put, Row.pB0, Row.pB1, Row.pB2])
   refine wpAnyH_ready (rs := [4, 6, 13]) (by kernel_rfl) (by simp) ?_
   refine AllReadyH.cons (o := ⟨some 17, .call ⟨.value (.func 86), #[.tmp 14, .tmp 16], #[55, 3]⟩, 22, "l08_thing.go:74", #[⟨1, .data⟩, ⟨3, .data⟩, ⟨3, .chain⟩], none⟩) rfl (fun K hK => ?_) ?_
   ·
    go_simp
    refine (bytes w0 p v l _ k5 (by have := HK5.out; omega) C.out).mono ?_
    rintro e wn2 ⟨y, rfl, ⟨lb, ho, hy, -, hm⟩, hc, hk⟩
    replace ho := Row.Own.shapeN (enc := Value.int .u8) ho
    obtain ⟨xb, nb, cb, rfl, -, -, ho⟩ := ho
    have OB := Lib.hid (show Sl.Own 5 .u8 w.heap.size wn2 (.slice xb nb cb) lb from Sl.Own.mono ho BS.out)
    have HYB := Lib.hid hy; have HMB := Lib.hid (show lb.length ≤ 4 by have := HK5.out; omega); clear ho hy hm
    replace XN := Lib.hid (box_keep XN.out hk HQP.out)
    replace ON := Lib.hid (rown_keep ON.out hk HPN.out)
    replace C := Lib.hid hc; replace BK := Lib.hid (BK.out.trans hk); replace BS := Lib.hid (Nat.le_trans BS.out hk.size); clear hc hk
    (try go_wp2_with fail)
    clear hHeld
    refine hK.out _ _ ?_ (fun hHeld => ?_)
    ·
     (try dsimp only); exact XN.out.cell
    clear hK K
    (try simp only [Act.put, Row.pB0, Row.pB1, Row.pB2])
    refine wpAnyH_ready (rs := [6, 13]) (by kernel_rfl) (by simp) ?_
    refine AllReadyH.cons (o := ⟨some 19, .buildSlice 27 3 #[(0, .const (Value.string { data := #[47, 107, 101, 121, 47, 97] })), (1, .const (Value.string { data := #[47, 107, 101, 121, 47, 98] })), (2, .const (Value.string { data := #[47, 97, 47, 107, 101, 121] }))], 27, "l08_thing.go:74", #[], none⟩) rfl (fun K hK => ?_) ?_
    ·
     go_simp
     have hb : Below wn2.heap.size wn2 (wn2.alloc (.cells #[.string { data := #[47, 107, 101, 121, 47, 97] }, .string { data := #[47, 107, 101, 121, 47, 98] }, .string { data := #[47, 97, 47, 107, 101, 121] }] 9)) := (Below.refl _ _).alloc (Nat.le_refl _) _
     obtain ⟨bs, hbs⟩ : ∃ b, b = wn2.heap.size := ⟨_, rfl⟩
     have HSP := Lib.hid (show bs ≠ p from by rw [hbs]; have h1 := CP.out; have h2 := BS.out; omega)
     have XS := Lib.hid (show Blk _ bs #[.string { data := #[47, 107, 101, 121, 47, 97] }, .string { data := #[47, 107, 101, 121, 47, 98] }, .string { data := #[47, 97, 47, 107, 101, 121] }] 9 from by rw [hbs]; exact Blk.new wn2 _ _)
     rw [← hbs]
     clear hbs
     replace XN := Lib.hid (XN.out.on hb)
     replace ON := Lib.hid (ON.out.on hb)
     replace OB := Lib.hid (OB.out.on hb)
     replace C := Lib.hid (C.out.on hb); replace BK := Lib.hid (BK.out.trans (Keep.of_below hb)); replace BS := Lib.hid (Nat.le_trans BS.out hb.size); clear hb
     generalize wn2.alloc (.cells #[.string { data := #[47, 107, 101, 121, 47, 97] }, .string { data := #[47, 107, 101, 121, 47, 98] }, .string { data := #[47, 97, 47, 107, 101, 121] }] 9) = wn3 at *
     clear hHeld
     refine hK.out _ _ ?_ (fun hHeld => ?_)
     ·
      (try dsimp only); exact XN.out.cell
     clear hK K
     (try simp only [Act.put, Row.pB0, Row.pB1, Row.pB2])
     revert C; revert BK; revert BS; revert hHeld; revert XN; revert ON; revert OB; revert XS; revert HK5; revert HYB; revert HMB; revert HSP; revert k5; revert xb; revert nb; revert cb; revert lb; revert bs; revert wn3
     exact T5.out
    refine AllReadyH.cons (o := ⟨some 4, .alloc 31, 0, "l08_thing.go:74", #[], none⟩) rfl (fun K hK => ?_) AllReadyH.nil
    go_simp
    have hb : Below wn2.heap.size wn2 (wn2.alloc (.cells #[.slice none 0 0, .slice none 0 0, .slice none 0 0, .int .i64 0, .int .i64 0] 31)) := (Below.refl _ _).alloc (Nat.le_refl _) _
    obtain ⟨gD, hgD⟩ : ∃ b, b = wn2.heap.size := ⟨_, rfl⟩
    have HDP := Lib.hid (show gD ≠ p from by rw [hgD]; have h1 := CP.out; have h2 := BS.out; omega)
    have HDW := Lib.hid (show w.heap.size ≤ gD from by rw [hgD]; exact BS.out)
    have XD := Lib.hid (show Blk _ gD (dc (.slice none 0 0) (.slice none 0 0) (.slice none 0 0) 0 0) 31 from by rw [hgD]; exact Blk.new wn2 _ _)
    rw [← hgD]
    clear hgD
    replace XN := Lib.hid (XN.out.on hb)
    replace ON := Lib.hid (ON.out.on hb)
    replace OB := Lib.hid (OB.out.on hb)
    replace C := Lib.hid (C.out.on hb); replace BK := Lib.hid (BK.out.trans (Keep.of_below hb)); replace BS := Lib.hid (Nat.le_trans BS.out hb.size); clear hb
    generalize wn2.alloc (.cells #[.slice none 0 0, .slice none 0 0, .slice none 0 0, .int .i64 0, .int .i64 0] 31) = wn4 at *
    clear hHeld
    refine hK.out _ _ ?_ (fun hHeld => ?_)
    ·
     (try dsimp only); exact XN.out.cell
    clear hK K
    (try simp only [Act.put, Row.pB0, Row.pB1, Row.pB2])
    revert C; revert BK; revert BS; revert hHeld; revert XN; revert ON; revert OB; revert XD; revert HK5; revert HYB; revert HMB; revert HDP; revert HDW; revert k5; revert xb; revert nb; revert cb; revert lb; revert gD; revert wn4
    exact T6.out
   refine AllReadyH.cons (o := ⟨some 19, .buildSlice 27 3 #[(0, .const (Value.string { data := #[47, 107, 101, 121, 47, 97] })), (1, .const (Value.string { data := #[47, 107, 101, 121, 47, 98] })), (2, .const (Value.string { data := #[47, 97, 47, 107, 101, 121] }))], 27, "l08_thing.go:74", #[], none⟩) rfl (fun K hK => ?_) ?_
   ·
    go_simp
    have hb : Below wn1.heap.size wn1 (wn1.alloc (.cells #[.string { data := #[47, 107, 101, 121, 47, 97] }, .string { data := #[47, 107, 101, 121, 47, 98] }, .string { data := #[47, 97, 47, 107, 101, 121] }] 9)) := (Below.refl _ _).alloc (Nat.le_refl _) _
    obtain ⟨bs, hbs⟩ : ∃ b, b = wn1.heap.size := ⟨_, rfl⟩
    have HSP := Lib.hid (show bs ≠ p from by rw [hbs]; have h1 := CP.out; have h2 := BS.out; omega)
    have XS := Lib.hid (show Blk _ bs #[.string { data := #[47, 107, 101, 121, 47, 97] }, .string { data := #[47, 107, 101, 121, 47, 98] }, .string { data := #[47, 97, 47, 107, 101, 121] }] 9 from by rw [hbs]; exact Blk.new wn1 _ _)
    rw [← hbs]
    clear hbs
    replace XN := Lib.hid (XN.out.on hb)
    replace ON := Lib.hid (ON.out.on hb)
    replace C := Lib.hid (C.out.on hb); replace BK := Lib.hid (BK.out.trans (Keep.of_below hb)); replace BS := Lib.hid (Nat.le_trans BS.out hb.size); clear hb
    generalize wn1.alloc (.cells #[.string { data := #[47, 107, 101, 121, 47, 97] }, .string { data := #[47, 107, 101, 121, 47, 98] }, .string { data := #[47, 97, 47, 107, 101, 121] }] 9) = wn5 at *
    clear hHeld
    refine hK.out _ _ ?_ (fun hHeld => ?_)
    ·
     (try dsimp only); exact XN.out.cell
    clear hK K
    (try simp only [Act.put, Row.pB0, Row.pB1, Row.pB2])
    revert C; revert BK; revert BS; revert hHeld; revert XN; revert ON; revert XS; revert HK5; revert HSP; revert k5; revert bs; revert wn5
    exact T8.out
   refine AllReadyH.cons (o := ⟨some 4, .alloc 31, 0, "l08_thing.go:74", #[], none⟩) rfl (fun K hK => ?_) AllReadyH.nil
   go_simp
   have hb : Below wn1.heap.size wn1 (wn1.alloc (.cells #[.slice none 0 0, .slice none 0 0, .slice none 0 0, .int .i64 0, .int .i64 0] 31)) := (Below.refl _ _).alloc (Nat.le_refl _) _
   obtain ⟨gD, hgD⟩ : ∃ b, b = wn1.heap.size := ⟨_, rfl⟩
   have HDP := Lib.hid (show gD ≠ p from by rw [hgD]; have h1 := CP.out; have h2 := BS.out; omega)
   have HDW := Lib.hid (show w.heap.size ≤ gD from by rw [hgD]; exact BS.out)
   have XD := Lib.hid (show Blk _ gD (dc (.slice none 0 0) (.slice none 0 0) (.slice none 0 0) 0 0) 31 from by rw [hgD]; exact Blk.new wn1 _ _)
   rw [← hgD]
   clear hgD
   replace XN := Lib.hid (XN.out.on hb)
   replace ON := Lib.hid (ON.out.on hb)
   replace C := Lib.hid (C.out.on hb); replace BK := Lib.hid (BK.out.trans (Keep.of_below hb)); replace BS := Lib.hid (Nat.le_trans BS.out hb.size); clear hb
   generalize wn1.alloc (.cells #[.slice none 0 0, .slice none 0 0, .slice none 0 0, .int .i64 0, .int .i64 0] 31) = wn6 at *
   clear hHeld
   refine hK.out _ _ ?_ (fun hHeld => ?_)
   ·
    (try dsimp only); exact XN.out.cell
   clear hK K
   (try simp only [Act.put, Row.pB0, Row.pB1, Row.pB2])
   revert C; revert BK; revert BS; revert hHeld; revert XN; revert ON; revert XD; revert HK5; revert HDP; revert HDW; revert k5; revert gD; revert wn6
   exact T9.out
  refine AllReadyH.cons (o := ⟨some 19, .buildSlice 27 3 #[(0, .const (Value.string { data := #[47, 107, 101, 121, 47, 97] })), (1, .const (Value.string { data := #[47, 107, 101, 121, 47, 98] })), (2, .const (Value.string { data := #[47, 97, 47, 107, 101, 121] }))], 27, "l08_thing.go:74", #[], none⟩) rfl (fun K hK => ?_) ?_
  ·
   go_simp
   have hb : Below wd.heap.size wd (wd.alloc (.cells #[.string { data := #[47, 107, 101, 121, 47, 97] }, .string { data := #[47, 107, 101, 121, 47, 98] }, .string { data := #[47, 97, 47, 107, 101, 121] }] 9)) := (Below.refl _ _).alloc (Nat.le_refl _) _
   obtain ⟨bs, hbs⟩ : ∃ b, b = wd.heap.size := ⟨_, rfl⟩
   have HSP := Lib.hid (show bs ≠ p from by rw [hbs]; have h1 := CP.out; have h2 := BS.out; omega)
   have XS := Lib.hid (show Blk _ bs #[.string { data := #[47, 107, 101, 121, 47, 97] }, .string { data := #[47, 107, 101, 121, 47, 98] }, .string { data := #[47, 97, 47, 107, 101, 121] }] 9 from by rw [hbs]; exact Blk.new wd _ _)
   rw [← hbs]
   clear hbs
   replace XN := Lib.hid (XN.out.on hb)
   replace ON := Lib.hid (ON.out.on hb)
   replace C := Lib.hid (C.out.on hb); replace BK := Lib.hid (BK.out.trans (Keep.of_below hb)); replace BS := Lib.hid (Nat.le_trans BS.out hb.size); clear hb
   generalize wd.alloc (.cells #[.string { data := #[47, 107, 101, 121, 47, 97] }, .string { data := #[47, 107, 101, 121, 47, 98] }, .string { data := #[47, 97, 47, 107, 101, 121] }] 9) = wn7 at *
   clear hHeld
   refine hK.out _ _ ?_ (fun hHeld => ?_)
   ·
    (try dsimp only); exact XN.out.cell
   clear hK K
   (try simp only [Act.put, Row.pB0, Row.pB1, Row.pB2])
   refine wpAnyH_ready (rs := [3, 13]) (by kernel_rfl) (by simp) ?_
   refine AllReadyH.cons (o := ⟨some 16, .call ⟨.value (.func 33), #[.tmp 15, .const (Value.int IntKind.i64 5)], #[55, 3]⟩, 3, "l08_thing.go:74", #[⟨2, .data⟩], none⟩) rfl (fun K hK => ?_) ?_
   ·
    go_simp
    refine (below w0 p v l _ 5 C.out).mono ?_
    rintro e wn8 ⟨y, rfl, ⟨r5, rfl, hr, -⟩, hc, hk⟩
    replace hr := hr (by omega)
    obtain ⟨k5, rfl⟩ := Int.eq_ofNat_of_zero_le hr.1
    have HK5 := Lib.hid (show k5 ≤ 4 by omega)
    clear hr
    replace XN := Lib.hid (box_keep XN.out hk HQP.out)
    replace ON := Lib.hid (rown_keep ON.out hk HPN.out)
    replace XS := Lib.hid (blk_keep XS.out hk HSP.out)
    replace C := Lib.hid hc; replace BK := Lib.hid (BK.out.trans hk); replace BS := Lib.hid (Nat.le_trans BS.out hk.size); clear hc hk
    (try go_wp2_with fail)
    clear hHeld
    refine hK.out _ _ ?_ (fun hHeld => ?_)
    ·
     (try dsimp only); exact XN.out.cell
    clear hK K
    (try simp only [Act.put, Row.pB0, Row.pB1, Row.pB2])
    revert C; revert BK; revert BS; revert hHeld; revert XN; revert ON; revert XS; revert HK5; revert HSP; revert k5; revert bs; revert wn8
    exact T8.out
   refine AllReadyH.cons (o := ⟨some 4, .alloc 31, 0, "l08_thing.go:74", #[], none⟩) rfl (fun K hK => ?_) AllReadyH.nil
   go_simp
   have hb : Below wn7.heap.size wn7 (wn7.alloc (.cells #[.slice none 0 0, .slice none 0 0, .slice none 0 0, .int .i64 0, .int .i64 0] 31)) := (Below.refl _ _).alloc (Nat.le_refl _) _
   obtain ⟨gD, hgD⟩ : ∃ b, b = wn7.heap.size := ⟨_, rfl⟩
   have HDP := Lib.hid (show gD ≠ p from by rw [hgD]; have h1 := CP.out; have h2 := BS.out; omega)
   have HDW := Lib.hid (show w.heap.size ≤ gD from by rw [hgD]; exact BS.out)
   have XD := Lib.hid (show Blk _ gD (dc (.slice none 0 0) (.slice none 0 0) (.slice none 0 0) 0 0) 31 from by rw [hgD]; exact Blk.new wn7 _ _)
   rw [← hgD]
   clear hgD
   replace XN := Lib.hid (XN.out.on hb)
   replace ON := Lib.hid (ON.out.on hb)
   replace XS := Lib.hid (XS.out.on hb)
   replace C := Lib.hid (C.out.on hb); replace BK := Lib.hid (BK.out.trans (Keep.of_below hb)); replace BS := Lib.hid (Nat.le_trans BS.out hb.size); clear hb
   generalize wn7.alloc (.cells #[.slice none 0 0, .slice none 0 0, .slice none 0 0, .int .i64 0, .int .i64 0] 31) = wn9 at *
   clear hHeld
   refine hK.out _ _ ?_ (fun hHeld => ?_)
   ·
    (try dsimp only); exact XN.out.cell
   clear hK K
   (try simp only [Act.put, Row.pB0, Row.pB1, Row.pB2])
   revert C; revert BK; revert BS; revert hHeld; revert XN; revert ON; revert XS; revert XD; revert HSP; revert HDP; revert HDW; revert bs; revert gD; revert wn9
   exact T10.out
  refine AllReadyH.cons (o := ⟨some 4, .alloc 31, 0, "l08_thing.go:74", #[], none⟩) rfl (fun K hK => ?_) AllReadyH.nil
  go_simp
  have hb : Below wd.heap.size wd (wd.alloc (.cells #[.slice none 0 0, .slice none 0 0, .slice none 0 0, .int .i64 0, .int .i64 0] 31)) := (Below.refl _ _).alloc (Nat.le_refl _) _
  obtain ⟨gD, hgD⟩ : ∃ b, b = wd.heap.size := ⟨_, rfl⟩
  have HDP := Lib.hid (show gD ≠ p from by rw [hgD]; have h1 := CP.out; have h2 := BS.out; omega)
  have HDW := Lib.hid (show w.heap.size ≤ gD from by rw [hgD]; exact BS.out)
  have XD := Lib.hid (show Blk _ gD (dc (.slice none 0 0) (.slice none 0 0) (.slice none 0 0) 0 0) 31 from by rw [hgD]; exact Blk.new wd _ _)
  rw [← hgD]
  clear hgD
  replace XN := Lib.hid (XN.out.on hb)
  replace ON := Lib.hid (ON.out.on hb)
  replace C := Lib.hid (C.out.on hb); replace BK := Lib.hid (BK.out.trans (Keep.of_below hb)); replace BS := Lib.hid (Nat.le_trans BS.out hb.size); clear hb
  generalize wd.alloc (.cells #[.slice none 0 0, .slice none 0 0, .slice none 0 0, .int .i64 0, .int .i64 0] 31) = wn10 at *
  clear hHeld
  refine hK.out _ _ ?_ (fun hHeld => ?_)
  ·
   (try dsimp only); exact XN.out.cell
  clear hK K
  (try simp only [Act.put, Row.pB0, Row.pB1, Row.pB2])
  refine wpAnyH_ready (rs := [3, 6]) (by kernel_rfl) (by simp) ?_
  refine AllReadyH.cons (o := ⟨some 16, .call ⟨.value (.func 33), #[.tmp 15, .const (Value.int IntKind.i64 5)], #[55, 3]⟩, 3, "l08_thing.go:74", #[⟨2, .data⟩], none⟩) rfl (fun K hK => ?_) ?_
  ·
   go_simp
   refine (below w0 p v l _ 5 C.out).mono ?_
   rintro e wn11 ⟨y, rfl, ⟨r5, rfl, hr, -⟩, hc, hk⟩
   replace hr := hr (by omega)
   obtain ⟨k5, rfl⟩ := Int.eq_ofNat_of_zero_le hr.1
   have HK5 := Lib.hid (show k5 ≤ 4 by omega)
   clear hr
   replace XN := Lib.hid (box_keep XN.out hk HQP.out)
   replace ON := Lib.hid (rown_keep ON.out hk HPN.out)
   replace XD := Lib.hid (blk_keep XD.out hk HDP.out)
   replace C := Lib.hid hc; replace BK := Lib.hid (BK.out.trans hk); replace BS := Lib.hid (Nat.le_trans BS.out hk.size); clear hc hk
   (try go_wp2_with fail)
   clear hHeld
   refine hK.out _ _ ?_ (fun hHeld => ?_)
   ·
    (try dsimp only); exact XN.out.cell
   clear hK K
   (try simp only [Act.put, Row.pB0, Row.pB1, Row.pB2])
   revert C; revert BK; revert BS; revert hHeld; revert XN; revert ON; revert XD; revert HK5; revert HDP; revert HDW; revert k5; revert gD; revert wn11
   exact T9.out
  refine AllReadyH.cons (o := ⟨some 19, .buildSlice 27 3 #[(0, .const (Value.string { data := #[47, 107, 101, 121, 47, 97] })), (1, .const (Value.string { data := #[47, 107, 101, 121, 47, 98] })), (2, .const (Value.string { data := #[47, 97, 47, 107, 101, 121] }))], 27, "l08_thing.go:74", #[], none⟩) rfl (fun K hK => ?_) AllReadyH.nil
  go_simp
  have hb : Below wn10.heap.size wn10 (wn10.alloc (.cells #[.string { data := #[47, 107, 101, 121, 47, 97] }, .string { data := #[47, 107, 101, 121, 47, 98] }, .string { data := #[47, 97, 47, 107, 101, 121] }] 9)) := (Below.refl _ _).alloc (Nat.le_refl _) _
  obtain ⟨bs, hbs⟩ : ∃ b, b = wn10.heap.size := ⟨_, rfl⟩
  have HSP := Lib.hid (show bs ≠ p from by rw [hbs]; have h1 := CP.out; have h2 := BS.out; omega)
  have XS := Lib.hid (show Blk _ bs #[.string { data := #[47, 107, 101, 121, 47, 97] }, .string { data := #[47, 107, 101, 121, 47, 98] }, .string { data := #[47, 97, 47, 107, 101, 121] }] 9 from by rw [hbs]; exact Blk.new wn10 _ _)
  rw [← hbs]
  clear hbs
  replace XN := Lib.hid (XN.out.on hb)
  replace ON := Lib.hid (ON.out.on hb)
  replace XD := Lib.hid (XD.out.on hb)
  replace C := Lib.hid (C.out.on hb); replace BK := Lib.hid (BK.out.trans (Keep.of_below hb)); replace BS := Lib.hid (Nat.le_trans BS.out hb.size); clear hb
  generalize wn10.alloc (.cells #[.string { data := #[47, 107, 101, 121, 47, 97] }, .string { data := #[47, 107, 101, 121, 47, 98] }, .string { data := #[47, 97, 47, 107, 101, 121] }] 9) = wn12 at *
  clear hHeld
  refine hK.out _ _ ?_ (fun hHeld => ?_)
  ·
   (try dsimp only); exact XN.out.cell
  clear hK K
  (try simp only [Act.put, Row.pB0, Row.pB1, Row.pB2])
  revert C; revert BK; revert BS; revert hHeld; revert XN; revert ON; revert XS; revert XD; revert HSP; revert HDP; revert HDW; revert bs; revert gD; revert wn12
  exact T10.out
 ·
  intro wn13 gD bs HDW HDP HSP XD XS ON XN hHeld BS BK C
  refine wpAnyH_ready (rs := [3]) (by kernel_rfl) (by simp) ?_
  refine AllReadyH.cons (o := ⟨some 16, .call ⟨.value (.func 33), #[.tmp 15, .const (Value.int IntKind.i64 5)], #[55, 3]⟩, 3, "l08_thing.go:74", #[⟨2, .data⟩], none⟩) rfl (fun K hK => ?_) AllReadyH.nil
  go_simp
  refine (below w0 p v l _ 5 C.out).mono ?_
  rintro e wn14 ⟨y, rfl, ⟨r5, rfl, hr, -⟩, hc, hk⟩
  replace hr := hr (by omega)
  obtain ⟨k5, rfl⟩ := Int.eq_ofNat_of_zero_le hr.1
  have HK5 := Lib.hid (show k5 ≤ 4 by omega)
  clear hr
  replace XN := Lib.hid (box_keep XN.out hk HQP.out)
  replace ON := Lib.hid (rown_keep ON.out hk HPN.out)
  replace XS := Lib.hid (blk_keep XS.out hk HSP.out)
  replace XD := Lib.hid (blk_keep XD.out hk HDP.out)
  replace C := Lib.hid hc; replace BK := Lib.hid (BK.out.trans hk); replace BS := Lib.hid (Nat.le_trans BS.out hk.size); clear hc hk
  (try go_wp2_with fail)
  clear hHeld
  refine hK.out _ _ ?_ (fun hHeld => ?_)
  ·
   (try dsimp only); exact XN.out.cell
  clear hK K
  (try simp only [Act.put, Row.pB0, Row.pB1, Row.pB2])
  revert C; revert BK; revert BS; revert hHeld; revert XN; revert ON; revert XS; revert XD; revert HK5; revert HSP; revert HDP; revert HDW; revert k5; revert bs; revert gD; revert wn14
  exact T7.out
 ·
  intro wn15 gD k5 HDW HDP HK5 XD ON XN hHeld BS BK C
  refine wpAnyH_ready (rs := [4, 6]) (by kernel_rfl) (by simp) ?_
  refine AllReadyH.cons (o := ⟨some 17, .call ⟨.value (.func 86), #[.tmp 14, .tmp 16], #[55, 3]⟩, 22, "l08_thing.go:74", #[⟨1, .data⟩, ⟨3, .data⟩, ⟨3, .chain⟩], none⟩) rfl (fun K hK => ?_) ?_
  ·
   go_simp
   refine (bytes w0 p v l _ k5 (by have := HK5.out; omega) C.out).mono ?_
   rintro e wn16 ⟨y, rfl, ⟨lb, ho, hy, -, hm⟩, hc, hk⟩
   replace ho := Row.Own.shapeN (enc := Value.int .u8) ho
   obtain ⟨xb, nb, cb, rfl, -, -, ho⟩ := ho
   have OB := Lib.hid (show Sl.Own 5 .u8 w.heap.size wn16 (.slice xb nb cb) lb from Sl.Own.mono ho BS.out)
   have HYB := Lib.hid hy; have HMB := Lib.hid (show lb.length ≤ 4 by have := HK5.out; omega); clear ho hy hm
   replace XN := Lib.hid (box_keep XN.out hk HQP.out)
   replace ON := Lib.hid (rown_keep ON.out hk HPN.out)
   replace XD := Lib.hid (blk_keep XD.out hk HDP.out)
   replace C := Lib.hid hc; replace BK := Lib.hid (BK.out.trans hk); replace BS := Lib.hid (Nat.le_trans BS.out hk.size); clear hc hk
   (try go_wp2_with fail)
   clear hHeld
   refine hK.out _ _ ?_ (fun hHeld => ?_)
   ·
    (try dsimp only); exact XN.out.cell
   clear hK K
   (try simp only [Act.put, Row.pB0, Row.pB1, Row.pB2])
   revert C; revert BK; revert BS; revert hHeld; revert XN; revert ON; revert OB; revert XD; revert HK5; revert HYB; revert HMB; revert HDP; revert HDW; revert k5; revert xb; revert nb; revert cb; revert lb; revert gD; revert wn16
   exact T6.out
  refine AllReadyH.cons (o := ⟨some 19, .buildSlice 27 3 #[(0, .const (Value.string { data := #[47, 107, 101, 121, 47, 97] })), (1, .const (Value.string { data := #[47, 107, 101, 121, 47, 98] })), (2, .const (Value.string { data := #[47, 97, 47, 107, 101, 121] }))], 27, "l08_thing.go:74", #[], none⟩) rfl (fun K hK => ?_) AllReadyH.nil
  go_simp
  have hb : Below wn15.heap.size wn15 (wn15.alloc (.cells #[.string { data := #[47, 107, 101, 121, 47, 97] }, .string { data := #[47, 107, 101, 121, 47, 98] }, .string { data := #[47, 97, 47, 107, 101, 121] }] 9)) := (Below.refl _ _).alloc (Nat.le_refl _) _
  obtain ⟨bs, hbs⟩ : ∃ b, b = wn15.heap.size := ⟨_, rfl⟩
  have HSP := Lib.hid (show bs ≠ p from by rw [hbs]; have h1 := CP.out; have h2 := BS.out; omega)
  have XS := Lib.hid (show Blk _ bs #[.string { data := #[47, 107, 101, 121, 47, 97] }, .string { data := #[47, 107, 101, 121, 47, 98] }, .string { data := #[47, 97, 47, 107, 101, 121] }] 9 from by rw [hbs]; exact Blk.new wn15 _ _)
  rw [← hbs]
  clear hbs
  replace XN := Lib.hid (XN.out.on hb)
  replace ON := Lib.hid (ON.out.on hb)
  replace XD := Lib.hid (XD.out.on hb)
  replace C := Lib.hid (C.out.on hb); replace BK := Lib.hid (BK.out.trans (Keep.of_below hb)); replace BS := Lib.hid (Nat.le_trans BS.out hb.size); clear hb
  generalize wn15.alloc (.cells #[.string { data := #[47, 107, 101, 121, 47, 97] }, .string { data := #[47, 107, 101, 121, 47, 98] }, .string { data := #[47, 97, 47, 107, 101, 121] }] 9) = wn17 at *
  clear hHeld
  refine hK.out _ _ ?_ (fun hHeld => ?_)
  ·
   (try dsimp only); exact XN.out.cell
  clear hK K
  (try simp only [Act.put, Row.pB0, Row.pB1, Row.pB2])
  revert C; revert BK; revert BS; revert hHeld; revert XN; revert ON; revert XS; revert XD; revert HK5; revert HSP; revert HDP; revert HDW; revert k5; revert bs; revert gD; revert wn17
  exact T7.out
 ·
  intro wn18 bs k5 HSP HK5 XS ON XN hHeld BS BK C
  refine wpAnyH_ready (rs := [4, 13]) (by kernel_rfl) (by simp) ?_
  refine AllReadyH.cons (o := ⟨some 17, .call ⟨.value (.func 86), #[.tmp 14, .tmp 16], #[55, 3]⟩, 22, "l08_thing.go:74", #[⟨1, .data⟩, ⟨3, .data⟩, ⟨3, .chain⟩], none⟩) rfl (fun K hK => ?_) ?_
  ·
   go_simp
   refine (bytes w0 p v l _ k5 (by have := HK5.out; omega) C.out).mono ?_
   rintro e wn19 ⟨y, rfl, ⟨lb, ho, hy, -, hm⟩, hc, hk⟩
   replace ho := Row.Own.shapeN (enc := Value.int .u8) ho
   obtain ⟨xb, nb, cb, rfl, -, -, ho⟩ := ho
   have OB := Lib.hid (show Sl.Own 5 .u8 w.heap.size wn19 (.slice xb nb cb) lb from Sl.Own.mono ho BS.out)
   have HYB := Lib.hid hy; have HMB := Lib.hid (show lb.length ≤ 4 by have := HK5.out; omega); clear ho hy hm
   replace XN := Lib.hid (box_keep XN.out hk HQP.out)
   replace ON := Lib.hid (rown_keep ON.out hk HPN.out)
   replace XS := Lib.hid (blk_keep XS.out hk HSP.out)
   replace C := Lib.hid hc; replace BK := Lib.hid (BK.out.trans hk); replace BS := Lib.hid (Nat.le_trans BS.out hk.size); clear hc hk
   (try go_wp2_with fail)
   clear hHeld
   refine hK.out _ _ ?_ (fun hHeld => ?_)
   ·
    (try dsimp only); exact XN.out.cell
   clear hK K
   (try simp only [Act.put, Row.pB0, Row.pB1, Row.pB2])
   revert C; revert BK; revert BS; revert hHeld; revert XN; revert ON; revert OB; revert XS; revert HK5; revert HYB; revert HMB; revert HSP; revert k5; revert xb; revert nb; revert cb; revert lb; revert bs; revert wn19
   exact T5.out
  refine AllReadyH.cons (o := ⟨some 4, .alloc 31, 0, "l08_thing.go:74", #[], none⟩) rfl (fun K hK => ?_) AllReadyH.nil
  go_simp
  have hb : Below wn18.heap.size wn18 (wn18.alloc (.cells #[.slice none 0 0, .slice none 0 0, .slice none 0 0, .int .i64 0, .int .i64 0] 31)) := (Below.refl _ _).alloc (Nat.le_refl _) _
  obtain ⟨gD, hgD⟩ : ∃ b, b = wn18.heap.size := ⟨_, rfl⟩
  have HDP := Lib.hid (show gD ≠ p from by rw [hgD]; have h1 := CP.out; have h2 := BS.out; omega)
  have HDW := Lib.hid (show w.heap.size ≤ gD from by rw [hgD]; exact BS.out)
  have XD := Lib.hid (show Blk _ gD (dc (.slice none 0 0) (.slice none 0 0) (.slice none 0 0) 0 0) 31 from by rw [hgD]; exact Blk.new wn18 _ _)
  rw [← hgD]
  clear hgD
  replace XN := Lib.hid (XN.out.on hb)
  replace ON := Lib.hid (ON.out.on hb)
  replace XS := Lib.hid (XS.out.on hb)
  replace C := Lib.hid (C.out.on hb); replace BK := Lib.hid (BK.out.trans (Keep.of_below hb)); replace BS := Lib.hid (Nat.le_trans BS.out hb.size); clear hb
  generalize wn18.alloc (.cells #[.slice none 0 0, .slice none 0 0, .slice none 0 0, .int .i64 0, .int .i64 0] 31) = wn20 at *
  clear hHeld
  refine hK.out _ _ ?_ (fun hHeld => ?_)
  ·
   (try dsimp only); exact XN.out.cell
  clear hK K
  (try simp only [Act.put, Row.pB0, Row.pB1, Row.pB2])
  revert C; revert BK; revert BS; revert hHeld; revert XN; revert ON; revert XS; revert XD; revert HK5; revert HSP; revert HDP; revert HDW; revert k5; revert bs; revert gD; revert wn20
  exact T7.out
 ·
  intro wn21 gD bs k5 HDW HDP HSP HK5 XD XS ON XN hHeld BS BK C
  refine wpAnyH_ready (rs := [4]) (by kernel_rfl) (by simp) ?_
  refine AllReadyH.cons (o := ⟨some 17, .call ⟨.value (.func 86), #[.tmp 14, .tmp 16], #[55, 3]⟩, 22, "l08_thing.go:74", #[⟨1, .data⟩, ⟨3, .data⟩, ⟨3, .chain⟩], none⟩) rfl (fun K hK => ?_) AllReadyH.nil
  go_simp
  refine (bytes w0 p v l _ k5 (by have := HK5.out; omega) C.out).mono ?_
  rintro e wn22 ⟨y, rfl, ⟨lb, ho, hy, -, hm⟩, hc, hk⟩
  replace ho := Row.Own.shapeN (enc := Value.int .u8) ho
  obtain ⟨xb, nb, cb, rfl, -, -, ho⟩ := ho
  have OB := Lib.hid (show Sl.Own 5 .u8 w.heap.size wn22 (.slice xb nb cb) lb from Sl.Own.mono ho BS.out)
  have HYB := Lib.hid hy; have HMB := Lib.hid (show lb.length ≤ 4 by have := HK5.out; omega); clear ho hy hm
  replace XN := Lib.hid (box_keep XN.out hk HQP.out)
  replace ON := Lib.hid (rown_keep ON.out hk HPN.out)
  replace XS := Lib.hid (blk_keep XS.out hk HSP.out)
  replace XD := Lib.hid (blk_keep XD.out hk HDP.out)
  replace C := Lib.hid hc; replace BK := Lib.hid (BK.out.trans hk); replace BS := Lib.hid (Nat.le_trans BS.out hk.size); clear hc hk
  (try go_wp2_with fail)
  clear hHeld
  refine hK.out _ _ ?_ (fun hHeld => ?_)
  ·
   (try dsimp only); exact XN.out.cell
  clear hK K
  (try simp only [Act.put, Row.pB0, Row.pB1, Row.pB2])
  revert C; revert BK; revert BS; revert hHeld; revert XN; revert ON; revert OB; revert XS; revert XD; revert HK5; revert HYB; revert HMB; revert HSP; revert HDP; revert HDW; revert k5; revert xb; revert nb; revert cb; revert lb; revert bs; revert gD; revert wn22
  exact T4.out
 ·
  intro wn23 gD lb cb nb xb k5 HDW HDP HMB HYB HK5 XD OB ON XN hHeld BS BK C
  refine wpAnyH_ready (rs := [6]) (by kernel_rfl) (by simp) ?_
  refine AllReadyH.cons (o := ⟨some 19, .buildSlice 27 3 #[(0, .const (Value.string { data := #[47, 107, 101, 121, 47, 97] })), (1, .const (Value.string { data := #[47, 107, 101, 121, 47, 98] })), (2, .const (Value.string { data := #[47, 97, 47, 107, 101, 121] }))], 27, "l08_thing.go:74", #[], none⟩) rfl (fun K hK => ?_) AllReadyH.nil
  go_simp
  have hb : Below wn23.heap.size wn23 (wn23.alloc (.cells #[.string { data := #[47, 107, 101, 121, 47, 97] }, .string { data := #[47, 107, 101, 121, 47, 98] }, .string { data := #[47, 97, 47, 107, 101, 121] }] 9)) := (Below.refl _ _).alloc (Nat.le_refl _) _
  obtain ⟨bs, hbs⟩ : ∃ b, b = wn23.heap.size := ⟨_, rfl⟩
  have HSP := Lib.hid (show bs ≠ p from by rw [hbs]; have h1 := CP.out; have h2 := BS.out; omega)
  have XS := Lib.hid (show Blk _ bs #[.string { data := #[47, 107, 101, 121, 47, 97] }, .string { data := #[47, 107, 101, 121, 47, 98] }, .string { data := #[47, 97, 47, 107, 101, 121] }] 9 from by rw [hbs]; exact Blk.new wn23 _ _)
  rw [← hbs]
  clear hbs
  replace XN := Lib.hid (XN.out.on hb)
  replace ON := Lib.hid (ON.out.on hb)
  replace OB := Lib.hid (OB.out.on hb)
  replace XD := Lib.hid (XD.out.on hb)
  replace C := Lib.hid (C.out.on hb); replace BK := Lib.hid (BK.out.trans (Keep.of_below hb)); replace BS := Lib.hid (Nat.le_trans BS.out hb.size); clear hb
  generalize wn23.alloc (.cells #[.string { data := #[47, 107, 101, 121, 47, 97] }, .string { data := #[47, 107, 101, 121, 47, 98] }, .string { data := #[47, 97, 47, 107, 101, 121] }] 9) = wn24 at *
  clear hHeld
  refine hK.out _ _ ?_ (fun hHeld => ?_)
  ·
   (try dsimp only); exact XN.out.cell
  clear hK K
  (try simp only [Act.put, Row.pB0, Row.pB1, Row.pB2])
  revert C; revert BK; revert BS; revert hHeld; revert XN; revert ON; revert OB; revert XS; revert XD; revert HK5; revert HYB; revert HMB; revert HSP; revert HDP; revert HDW; revert k5; revert xb; revert nb; revert cb; revert lb; revert bs; revert gD; revert wn24
  exact T4.out
 ·
  intro wn25 bs lb cb nb xb k5 HSP HMB HYB HK5 XS OB ON XN hHeld BS BK C
  refine wpAnyH_ready (rs := [7, 13]) (by kernel_rfl) (by simp) ?_
  refine AllReadyH.cons (o := ⟨some 20, .call ⟨.value (.func 88), #[.tmp 18, .tmp 19], #[55, 27]⟩, 9, "l08_thing.go:74", #[⟨5, .data⟩, ⟨6, .data⟩, ⟨4, .chain⟩], none⟩) rfl (fun K hK => ?_) ?_
  ·
   go_simp
   refine (strPick3 w0 p v l _ C.out XS.out HSP.out 6 (by decide) (by decide) (by decide)).mono ?_
   rintro e wn26 ⟨y, rfl, ⟨tk, rfl, htk⟩, hc, hk⟩
   have HTK := Lib.hid htk; clear htk
   replace XN := Lib.hid (box_keep XN.out hk HQP.out)
   replace ON := Lib.hid (rown_keep ON.out hk HPN.out)
   replace OB := Lib.hid (own_keep OB.out hk CP.out)
   replace XS := Lib.hid (blk_keep XS.out hk HSP.out)
   replace C := Lib.hid hc; replace BK := Lib.hid (BK.out.trans hk); replace BS := Lib.hid (Nat.le_trans BS.out hk.size); clear hc hk
   (try go_wp2_with fail)
   clear hHeld
   refine hK.out _ _ ?_ (fun hHeld => ?_)
   ·
    (try dsimp only); exact XN.out.cell
   clear hK K
   (try simp only [Act.put, Row.pB0, Row.pB1, Row.pB2])
   refine wpAnyH_ready (rs := [8, 13]) (by kernel_rfl) (by simp) ?_
   refine AllReadyH.cons (o := ⟨some 21, .call ⟨.value (.func 87), #[.tmp 20], #[9]⟩, 29, "l08_thing.go:74", #[⟨7, .data⟩, ⟨7, .chain⟩], none⟩) rfl (fun K hK => ?_) ?_
   ·
    go_simp
    refine (l4OfO tk _ (by have := HTK.out; omega)).mono ?_
    rintro e wn27 ⟨uu, rfl, ho, hb⟩
    replace ho := ho.shapeN
    obtain ⟨xc, nc, cc, rfl, -, -, ho⟩ := ho
    have OC := Lib.hid ho; clear ho
    replace XN := Lib.hid (XN.out.on hb)
    replace ON := Lib.hid (ON.out.on hb)
    replace OB := Lib.hid (OB.out.on hb)
    replace XS := Lib.hid (XS.out.on hb)
    replace C := Lib.hid (C.out.on hb); replace BK := Lib.hid (BK.out.trans (Keep.of_below hb)); replace BS := Lib.hid (Nat.le_trans BS.out hb.size); clear hb
    (try go_wp2_with fail)
    clear hHeld
    refine hK.out _ _ ?_ (fun hHeld => ?_)
    ·
     (try dsimp only); exact XN.out.cell
    clear hK K
    (try simp only [Act.put, Row.pB0, Row.pB1, Row.pB2])
    refine wpAnyH_ready (rs := [10, 13]) (by kernel_rfl) (by simp) ?_
    refine AllReadyH.cons (o := ⟨some 23, .call ⟨.value (.func 33), #[.tmp 22, .const (Value.int IntKind.i64 60)], #[55, 3]⟩, 3, "l08_thing.go:74", #[⟨9, .data⟩, ⟨8, .chain⟩], none⟩) rfl (fun K hK => ?_) ?_
    ·
     go_simp
     refine (below w0 p v l _ 60 C.out).mono ?_
     rintro e wn28 ⟨y, rfl, ⟨r60, rfl, hr, -⟩, hc, hk⟩
     replace hr := hr (by omega)
     obtain ⟨hr0, hr1⟩ := hr
     have hwf : IntKind.i64.wrap (40 + r60) = 40 + r60 := by rw [IntKind.wrap_i64]; omega
     replace XN := Lib.hid (box_keep XN.out hk HQP.out)
     replace ON := Lib.hid (rown_keep ON.out hk HPN.out)
     replace OB := Lib.hid (own_keep OB.out hk CP.out)
     replace XS := Lib.hid (blk_keep XS.out hk HSP.out)
     replace OC := Lib.hid (holdS_keep OC.out C.out hk)
     replace C := Lib.hid hc; replace BK := Lib.hid (BK.out.trans hk); replace BS := Lib.hid (Nat.le_trans BS.out hk.size); clear hc hk
     (try go_wp2_with fail)
     clear hHeld
     refine hK.out _ _ ?_ (fun hHeld => ?_)
     ·
      (try dsimp only); exact XN.out.cell
     clear hK K
     (try simp only [Act.put, Row.pB0, Row.pB1, Row.pB2])
     refine wpAnyH_take (i := 11) (oi := ⟨some 24, .binOp BinOp.add 3 (.const (Value.int IntKind.i64 40)) (.tmp 23) 3, 3, "l08_thing.go:74", #[⟨10, .data⟩], none⟩) (v := ?_) rfl (by kernel_rfl) (by kernel_rfl) (by kernel_rfl) (fun _ _ _ h => h) (Or.inl ⟨by rfl, ?_⟩) (by assumption) ?_
     rotate_left
     ·
      intro w' hSw; (try dsimp only at hSw); first | (go_simp; done) | (go_simp; with_reducible rfl)
     (try simp only [Act.put, Row.pB0, Row.pB1, Row.pB2])
     refine wpAnyH_take (i := 12) (oi := ⟨some 25, .build 31 #[(0, .tmp 13), (1, .tmp 17), (2, .tmp 21), (3, .tmp 24)], 31, "l08_thing.go:74", #[⟨0, .data⟩, ⟨4, .data⟩, ⟨8, .data⟩, ⟨11, .data⟩], none⟩) (v := ?_) rfl (by kernel_rfl) (by kernel_rfl) (by kernel_rfl) (fun _ _ _ h => h) (Or.inl ⟨by rfl, ?_⟩) (by assumption) ?_
     rotate_left
     ·
      intro w' hSw; (try dsimp only at hSw); first | (go_simp; done) | (go_simp; with_reducible rfl)
     (try simp only [Act.put, Row.pB0, Row.pB1, Row.pB2])
     refine wpAnyH_ready (rs := [13]) (by kernel_rfl) (by simp) ?_
     refine AllReadyH.cons (o := ⟨some 4, .alloc 31, 0, "l08_thing.go:74", #[], none⟩) rfl (fun K hK => ?_) AllReadyH.nil
     go_simp
     have hb : Below wn28.heap.size wn28 (wn28.alloc (.cells #[.slice none 0 0, .slice none 0 0, .slice none 0 0, .int .i64 0, .int .i64 0] 31)) := (Below.refl _ _).alloc (Nat.le_refl _) _
     obtain ⟨gD, hgD⟩ : ∃ b, b = wn28.heap.size := ⟨_, rfl⟩
     have HDP := Lib.hid (show gD ≠ p from by rw [hgD]; have h1 := CP.out; have h2 := BS.out; omega)
     have HDW := Lib.hid (show w.heap.size ≤ gD from by rw [hgD]; exact BS.out)
     have XD := Lib.hid (show Blk _ gD (dc (.slice none 0 0) (.slice none 0 0) (.slice none 0 0) 0 0) 31 from by rw [hgD]; exact Blk.new wn28 _ _)
     rw [← hgD]
     clear hgD
     replace XN := Lib.hid (XN.out.on hb)
     replace ON := Lib.hid (ON.out.on hb)
     replace OB := Lib.hid (OB.out.on hb)
     replace XS := Lib.hid (XS.out.on hb)
     replace OC := Lib.hid (OC.out.on hb)
     replace C := Lib.hid (C.out.on hb); replace BK := Lib.hid (BK.out.trans (Keep.of_below hb)); replace BS := Lib.hid (Nat.le_trans BS.out hb.size); clear hb
     generalize wn28.alloc (.cells #[.slice none 0 0, .slice none 0 0, .slice none 0 0, .int .i64 0, .int .i64 0] 31) = wn29 at *
     clear hHeld
     refine hK.out _ _ ?_ (fun hHeld => ?_)
     ·
      (try dsimp only); exact XN.out.cell
     clear hK K
     (try simp only [Act.put, Row.pB0, Row.pB1, Row.pB2])
     revert C; revert BK; revert BS; revert hHeld; revert XN; revert ON; revert OB; revert XS; revert OC; revert XD; revert HK5; revert HYB; revert HMB; revert HSP; revert HTK; revert hr0; revert hr1; revert hwf; revert HDP; revert HDW; revert k5; revert xb; revert nb; revert cb; revert lb; revert bs; revert tk; revert xc; revert nc; revert cc; revert r60; revert gD; revert wn29
     exact T1.out
    refine AllReadyH.cons (o := ⟨some 4, .alloc 31, 0, "l08_thing.go:74", #[], none⟩) rfl (fun K hK => ?_) AllReadyH.nil
    go_simp
    have hb : Below wn27.heap.size wn27 (wn27.alloc (.cells #[.slice none 0 0, .slice none 0 0, .slice none 0 0, .int .i64 0, .int .i64 0] 31)) := (Below.refl _ _).alloc (Nat.le_refl _) _
    obtain ⟨gD, hgD⟩ : ∃ b, b = wn27.heap.size := ⟨_, rfl⟩
    have HDP := Lib.hid (show gD ≠ p from by rw [hgD]; have h1 := CP.out; have h2 := BS.out; omega)
    have HDW := Lib.hid (show w.heap.size ≤ gD from by rw [hgD]; exact BS.out)
    have XD := Lib.hid (show Blk _ gD (dc (.slice none 0 0) (.slice none 0 0) (.slice none 0 0) 0 0) 31 from by rw [hgD]; exact Blk.new wn27 _ _)
    rw [← hgD]
    clear hgD
    replace XN := Lib.hid (XN.out.on hb)
    replace ON := Lib.hid (ON.out.on hb)
    replace OB := Lib.hid (OB.out.on hb)
    replace XS := Lib.hid (XS.out.on hb)
    replace OC := Lib.hid (OC.out.on hb)
    replace C := Lib.hid (C.out.on hb); replace BK := Lib.hid (BK.out.trans (Keep.of_below hb)); replace BS := Lib.hid (Nat.le_trans BS.out hb.size); clear hb
    generalize wn27.alloc (.cells #[.slice none 0 0, .slice none 0 0, .slice none 0 0, .int .i64 0, .int .i64 0] 31) = wn30 at *
    clear hHeld
    refine hK.out _ _ ?_ (fun hHeld => ?_)
    ·
     (try dsimp only); exact XN.out.cell
    clear hK K
    (try simp only [Act.put, Row.pB0, Row.pB1, Row.pB2])
    revert C; revert BK; revert BS; revert hHeld; revert XN; revert ON; revert OB; revert XS; revert OC; revert XD; revert HK5; revert HYB; revert HMB; revert HSP; revert HTK; revert HDP; revert HDW; revert k5; revert xb; revert nb; revert cb; revert lb; revert bs; revert tk; revert xc; revert nc; revert cc; revert gD; revert wn30
    exact T2.out
   refine AllReadyH.cons (o := ⟨some 4, .alloc 31, 0, "l08_thing.go:74", #[], none⟩) rfl (fun K hK => ?_) AllReadyH.nil
   go_simp
   have hb : Below wn26.heap.size wn26 (wn26.alloc (.cells #[.slice none 0 0, .slice none 0 0, .slice none 0 0, .int .i64 0, .int .i64 0] 31)) := (Below.refl _ _).alloc (Nat.le_refl _) _
   obtain ⟨gD, hgD⟩ : ∃ b, b = wn26.heap.size := ⟨_, rfl⟩
   have HDP := Lib.hid (show gD ≠ p from by rw [hgD]; have h1 := CP.out; have h2 := BS.out; omega)
   have HDW := Lib.hid (show w.heap.size ≤ gD from by rw [hgD]; exact BS.out)
   have XD := Lib.hid (show Blk _ gD (dc (.slice none 0 0) (.slice none 0 0) (.slice none 0 0) 0 0) 31 from by rw [hgD]; exact Blk.new wn26 _ _)
   rw [← hgD]
   clear hgD
   replace XN := Lib.hid (XN.out.on hb)
   replace ON := Lib.hid (ON.out.on hb)
   replace OB := Lib.hid (OB.out.on hb)
   replace XS := Lib.hid (XS.out.on hb)
   replace C := Lib.hid (C.out.on hb); replace BK := Lib.hid (BK.out.trans (Keep.of_below hb)); replace BS := Lib.hid (Nat.le_trans BS.out hb.size); clear hb
   generalize wn26.alloc (.cells #[.slice none 0 0, .slice none 0 0, .slice none 0 0, .int .i64 0, .int .i64 0] 31) = wn31 at *
   clear hHeld
   refine hK.out _ _ ?_ (fun hHeld => ?_)
   ·
    (try dsimp only); exact XN.out.cell
   clear hK K
   (try simp only [Act.put, Row.pB0, Row.pB1, Row.pB2])
   revert C; revert BK; revert BS; revert hHeld; revert XN; revert ON; revert OB; revert XS; revert XD; revert HK5; revert HYB; revert HMB; revert HSP; revert HTK; revert HDP; revert HDW; revert k5; revert xb; revert nb; revert cb; revert lb; revert bs; revert tk; revert gD; revert wn31
   exact T3.out
  refine AllReadyH.cons (o := ⟨some 4, .alloc 31, 0, "l08_thing.go:74", #[], none⟩) rfl (fun K hK => ?_) AllReadyH.nil
  go_simp
  have hb : Below wn25.heap.size wn25 (wn25.alloc (.cells #[.slice none 0 0, .slice none 0 0, .slice none 0 0, .int .i64 0, .int .i64 0] 31)) := (Below.refl _ _).alloc (Nat.le_refl _) _
  obtain ⟨gD, hgD⟩ : ∃ b, b = wn25.heap.size := ⟨_, rfl⟩
  have HDP := Lib.hid (show gD ≠ p from by rw [hgD]; have h1 := CP.out; have h2 := BS.out; omega)
  have HDW := Lib.hid (show w.heap.size ≤ gD from by rw [hgD]; exact BS.out)
  have XD := Lib.hid (show Blk _ gD (dc (.slice none 0 0) (.slice none 0 0) (.slice none 0 0) 0 0) 31 from by rw [hgD]; exact Blk.new wn25 _ _)
  rw [← hgD]
  clear hgD
  replace XN := Lib.hid (XN.out.on hb)
  replace ON := Lib.hid (ON.out.on hb)
  replace OB := Lib.hid (OB.out.on hb)
  replace XS := Lib.hid (XS.out.on hb)
  replace C := Lib.hid (C.out.on hb); replace BK := Lib.hid (BK.out.trans (Keep.of_below hb)); replace BS := Lib.hid (Nat.le_trans BS.out hb.size); clear hb
  generalize wn25.alloc (.cells #[.slice none 0 0, .slice none 0 0, .slice none 0 0, .int .i64 0, .int .i64 0] 31) = wn32 at *
  clear hHeld
  refine hK.out _ _ ?_ (fun hHeld => ?_)
  ·
   (try dsimp only); exact XN.out.cell
  clear hK K
  (try simp only [Act.put, Row.pB0, Row.pB1, Row.pB2])
  revert C; revert BK; revert BS; revert hHeld; revert XN; revert ON; revert OB; revert XS; revert XD; revert HK5; revert HYB; revert HMB; revert HSP; revert HDP; revert HDW; revert k5; revert xb; revert nb; revert cb; revert lb; revert bs; revert gD; revert wn32
  exact T4.out
 ·
  intro wn33 gD bs lb cb nb xb k5 HDW HDP HSP HMB HYB HK5 XD XS OB ON XN hHeld BS BK C
  refine wpAnyH_ready (rs := [7]) (by kernel_rfl) (by simp) ?_
  refine AllReadyH.cons (o := ⟨some 20, .call ⟨.value (.func 88), #[.tmp 18, .tmp 19], #[55, 27]⟩, 9, "l08_thing.go:74", #[⟨5, .data⟩, ⟨6, .data⟩, ⟨4, .chain⟩], none⟩) rfl (fun K hK => ?_) AllReadyH.nil
  go_simp
  refine (strPick3 w0 p v l _ C.out XS.out HSP.out 6 (by decide) (by decide) (by decide)).mono ?_
  rintro e wn34 ⟨y, rfl, ⟨tk, rfl, htk⟩, hc, hk⟩
  have HTK := Lib.hid htk; clear htk
  replace XN := Lib.hid (box_keep XN.out hk HQP.out)
  replace ON := Lib.hid (rown_keep ON.out hk HPN.out)
  replace OB := Lib.hid (own_keep OB.out hk CP.out)
  replace XS := Lib.hid (blk_keep XS.out hk HSP.out)
  replace XD := Lib.hid (blk_keep XD.out hk HDP.out)
  replace C := Lib.hid hc; replace BK := Lib.hid (BK.out.trans hk); replace BS := Lib.hid (Nat.le_trans BS.out hk.size); clear hc hk
  (try go_wp2_with fail)
  clear hHeld
  refine hK.out _ _ ?_ (fun hHeld => ?_)
  ·
   (try dsimp only); exact XN.out.cell
  clear hK K
  (try simp only [Act.put, Row.pB0, Row.pB1, Row.pB2])
  revert C; revert BK; revert BS; revert hHeld; revert XN; revert ON; revert OB; revert XS; revert XD; revert HK5; revert HYB; revert HMB; revert HSP; revert HTK; revert HDP; revert HDW; revert k5; revert xb; revert nb; revert cb; revert lb; revert bs; revert tk; revert gD; revert wn34
  exact T3.out
 ·
  intro wn35 gD tk bs lb cb nb xb k5 HDW HDP HTK HSP HMB HYB HK5 XD XS OB ON XN hHeld BS BK C
  refine wpAnyH_ready (rs := [8]) (by kernel_rfl) (by simp) ?_
  refine AllReadyH.cons (o := ⟨some 21, .call ⟨.value (.func 87), #[.tmp 20], #[9]⟩, 29, "l08_thing.go:74", #[⟨7, .data⟩, ⟨7, .chain⟩], none⟩) rfl (fun K hK => ?_) AllReadyH.nil
  go_simp
  refine (l4OfO tk _ (by have := HTK.out; omega)).mono ?_
  rintro e wn36 ⟨uu, rfl, ho, hb⟩
  replace ho := ho.shapeN
  obtain ⟨xc, nc, cc, rfl, -, -, ho⟩ := ho
  have OC := Lib.hid ho; clear ho
  replace XN := Lib.hid (XN.out.on hb)
  replace ON := Lib.hid (ON.out.on hb)
  replace OB := Lib.hid (OB.out.on hb)
  replace XS := Lib.hid (XS.out.on hb)
  replace XD := Lib.hid (XD.out.on hb)
  replace C := Lib.hid (C.out.on hb); replace BK := Lib.hid (BK.out.trans (Keep.of_below hb)); replace BS := Lib.hid (Nat.le_trans BS.out hb.size); clear hb
  (try go_wp2_with fail)
  clear hHeld
  refine hK.out _ _ ?_ (fun hHeld => ?_)
  ·
   (try dsimp only); exact XN.out.cell
  clear hK K
  (try simp only [Act.put, Row.pB0, Row.pB1, Row.pB2])
  revert C; revert BK; revert BS; revert hHeld; revert XN; revert ON; revert OB; revert XS; revert OC; revert XD; revert HK5; revert HYB; revert HMB; revert HSP; revert HTK; revert HDP; revert HDW; revert k5; revert xb; revert nb; revert cb; revert lb; revert bs; revert tk; revert xc; revert nc; revert cc; revert gD; revert wn36
  exact T2.out
 ·
  intro wn37 gD cc nc xc tk bs lb cb nb xb k5 HDW HDP HTK HSP HMB HYB HK5 XD OC XS OB ON XN hHeld BS BK C
  refine wpAnyH_ready (rs := [10]) (by kernel_rfl) (by simp) ?_
  refine AllReadyH.cons (o := ⟨some 23, .call ⟨.value (.func 33), #[.tmp 22, .const (Value.int IntKind.i64 60)], #[55, 3]⟩, 3, "l08_thing.go:74", #[⟨9, .data⟩, ⟨8, .chain⟩], none⟩) rfl (fun K hK => ?_) AllReadyH.nil
  go_simp
  refine (below w0 p v l _ 60 C.out).mono ?_
  rintro e wn38 ⟨y, rfl, ⟨r60, rfl, hr, -⟩, hc, hk⟩
  replace hr := hr (by omega)
  obtain ⟨hr0, hr1⟩ := hr
  have hwf : IntKind.i64.wrap (40 + r60) = 40 + r60 := by rw [IntKind.wrap_i64]; omega
  replace XN := Lib.hid (box_keep XN.out hk HQP.out)
  replace ON := Lib.hid (rown_keep ON.out hk HPN.out)
  replace OB := Lib.hid (own_keep OB.out hk CP.out)
  replace XS := Lib.hid (blk_keep XS.out hk HSP.out)
  replace OC := Lib.hid (holdS_keep OC.out C.out hk)
  replace XD := Lib.hid (blk_keep XD.out hk HDP.out)
  replace C := Lib.hid hc; replace BK := Lib.hid (BK.out.trans hk); replace BS := Lib.hid (Nat.le_trans BS.out hk.size); clear hc hk
  (try go_wp2_with fail)
  clear hHeld
  refine hK.out _ _ ?_ (fun hHeld => ?_)
  ·
   (try dsimp only); exact XN.out.cell
  clear hK K
  (try simp only [Act.put, Row.pB0, Row.pB1, Row.pB2])
  refine wpAnyH_take (i := 11) (oi := ⟨some 24, .binOp BinOp.add 3 (.const (Value.int IntKind.i64 40)) (.tmp 23) 3, 3, "l08_thing.go:74", #[⟨10, .data⟩], none⟩) (v := ?_) rfl (by kernel_rfl) (by kernel_rfl) (by kernel_rfl) (fun _ _ _ h => h) (Or.inl ⟨by rfl, ?_⟩) (by assumption) ?_
  rotate_left
  ·
   intro w' hSw; (try dsimp only at hSw); first | (go_simp; done) | (go_simp; with_reducible rfl)
  (try simp only [Act.put, Row.pB0, Row.pB1, Row.pB2])
  refine wpAnyH_take (i := 12) (oi := ⟨some 25, .build 31 #[(0, .tmp 13), (1, .tmp 17), (2, .tmp 21), (3, .tmp 24)], 31, "l08_thing.go:74", #[⟨0, .data⟩, ⟨4, .data⟩, ⟨8, .data⟩, ⟨11, .data⟩], none⟩) (v := ?_) rfl (by kernel_rfl) (by kernel_rfl) (by kernel_rfl) (fun _ _ _ h => h) (Or.inl ⟨by rfl, ?_⟩) (by assumption) ?_
  rotate_left
  ·
   intro w' hSw; (try dsimp only at hSw); first | (go_simp; done) | (go_simp; with_reducible rfl)
  (try simp only [Act.put, Row.pB0, Row.pB1, Row.pB2])
  revert C; revert BK; revert BS; revert hHeld; revert XN; revert ON; revert OB; revert XS; revert OC; revert XD; revert HK5; revert HYB; revert HMB; revert HSP; revert HTK; revert hr0; revert hr1; revert hwf; revert HDP; revert HDW; revert k5; revert xb; revert nb; revert cb; revert lb; revert bs; revert tk; revert xc; revert nc; revert cc; revert r60; revert gD; revert wn38
  exact T1.out
 ·
  intro wn39 gD r60 cc nc xc tk bs lb cb nb xb k5 HDW HDP hwf hr1 hr0 HTK HSP HMB HYB HK5 XD OC XS OB ON XN hHeld BS BK C
  refine wpAnyH_ready (rs := [14]) (by kernel_rfl) (by simp) ?_
  refine AllReadyH.cons (o := ⟨none, .store 31 (.tmp 4) (.tmp 25), 0, "l08_thing.go:74", #[⟨13, .data⟩, ⟨12, .data⟩, ⟨10, .chain⟩, ⟨0, .phase⟩, ⟨1, .phase⟩, ⟨2, .phase⟩, ⟨3, .phase⟩, ⟨4, .phase⟩, ⟨5, .phase⟩, ⟨6, .phase⟩, ⟨7, .phase⟩, ⟨8, .phase⟩, ⟨9, .phase⟩, ⟨10, .phase⟩, ⟨11, .phase⟩, ⟨12, .phase⟩, ⟨13, .phase⟩], none⟩) rfl (fun K hK => ?_) AllReadyH.nil
  obtain ⟨r0, r1, r2, r3, r4⟩ := keepC5 XD.out
  have t0 := XD.out.frozen 0; have t1 := XD.out.frozen 1; have t2 := XD.out.frozen 2; have t3 := XD.out.frozen 3; have t4 := XD.out.frozen 4
  go_simp
  clear hHeld
  refine hK.out _ _ ?_ (fun hHeld => ?_)
  ·
   (try dsimp only); exact (box5 XN.out (by have h1 := HQL.out; have h2 := HDW.out; omega)).cell
  clear hK K
  (try simp only [Act.put, Row.pB0, Row.pB1, Row.pB2])
  refine wpAnyH_done (by kernel_rfl) ?_ _
  exact NoPanic.normal (HQ.out _ _ _ _ _ _ _ _ _ _ _ _ _ _ _ _ _ _ _ _ _ _ r60 _ HDW.out HDP.out XD.out ON.out OB.out OC.out HYB.out HMB.out (Row.bulk_valid (Row.valid_pN _)) hr0 hr1 C.out BK.out)
set_option maxRecDepth 100000 in
set_option maxHeartbeats 4000000 in
theorem dr5 {Q : Exit → Act → World → Prop} {v1 v3 v5 v6 v7 v8 v9 v10 v11 v12 v13 v14 v15 v16 v17 v18 v19 v20 v21 v22 v23 v24 v25 v26 v27 v28 v29 : Value} {w : World} {w0 : World} {p : Nat} {v : Value} {l : List UInt8} (C0 : Hid (Cur w0 p v l w)) {g r na ca nb cb nc cc BN : Nat} {xa xb xc : Option Addr} {la lc : List ByteArray} {lb : List Int} {f : Int} (XG : Hid (Blk w g (dc (.slice xa na ca) (.slice xb nb cb) (.slice xc nc cc) f 0) 31)) (XR : Hid (Blk w r (dc (.slice none 0 0) (.slice none 0 0) (.slice none 0 0) 0 0) 31)) (OA : Hid (Row.Own 9 Value.string BN w (.slice xa na ca) la)) (OB : Hid (Sl.Own 5 .u8 BN w (.slice xb nb cb) lb)) (OC : Hid (Row.Holds Value.string w (.slice xc nc cc) lc)) (HGP : Hid (g ≠ p)) (HRP : Hid (r ≠ p)) (HGR : Hid (g ≠ r)) (HPN : Hid (p < BN)) (HBY : Hid (Sl.Byt lb)) (HBL : Hid (bulkD (la, lb, lc, f, 0) ≤ 3000))
  (hQ : ∀ (u26 u27 u28 u29 : Value) (ya yb yc : Option Addr) (ma da mb db mc dc_ : Nat) (t M : Int) (wx : World), Blk wx r (dc (.slice none 0 0) (.slice none 0 0) (.slice none 0 0) 0 0) 31 → DO3 w.heap.size wx (.slice ya ma da) (.slice yb mb db) (.slice yc mc dc_) (la, lb, lc, f, M) → M = Seal.mac t (Row.portD (la, lb, lc, f, 0)) → 100 ≤ t → t ≤ 104 → Cur w0 p v l wx → Keep p w wx → Q .normal ⟨#[.pointer (some ⟨p, 0, none⟩), v1, .pointer (some ⟨r, 0, none⟩), v3, .pointer (some ⟨g, 0, none⟩), v5, v6, v7, v8, v9, v10, v11, v12, v13, v14, v15, v16, v17, v18, v19, v20, v21, v22, v23, v24, v25, u26, u27, u28, u29], []⟩ (((((wx.setCell ⟨r, 0, none⟩ (.slice ya ma da)).setCell ⟨r, 1, none⟩ (.slice yb mb db)).setCell ⟨r, 2, none⟩ (.slice yc mc dc_)).setCell ⟨r, 3, none⟩ (.int .i64 f)).setCell ⟨r, 4, none⟩ (.int .i64 M))) :
  (Code.region 5 #[⟨some 26, .move (.tmp 0), 55, "l08_thing.go:75", #[], none⟩,
   ⟨some 27, .call ⟨.value (.func 90), #[.tmp 26], #[55]⟩, 3, "l08_thing.go:75", #[⟨0, .data⟩], none⟩,
   ⟨some 28, .load 31 (.tmp 4), 31, "l08_thing.go:75", #[], none⟩,
   ⟨some 29, .call ⟨.value (.func 89), #[.tmp 27, .tmp 28], #[3, 31]⟩, 31, "l08_thing.go:75", #[⟨1, .data⟩, ⟨2, .data⟩, ⟨1, .chain⟩], none⟩,
   ⟨none, .store 31 (.tmp 2) (.tmp 29), 0, "l08_thing.go:75", #[⟨3, .data⟩, ⟨3, .chain⟩, ⟨0, .phase⟩, ⟨1, .phase⟩, ⟨2, .phase⟩, ⟨3, .phase⟩], none⟩] true).wp Tryz.prog Q ⟨#[.pointer (some ⟨p, 0, none⟩), v1, .pointer (some ⟨r, 0, none⟩), v3, .pointer (some ⟨g, 0, none⟩), v5, v6, v7, v8, v9, v10, v11, v12, v13, v14, v15, v16, v17, v18, v19, v20, v21, v22, v23, v24, v25, v26, v27, v28, v29], []⟩ w := by
 have HQ := Lib.hid hQ; clear hQ
 have hb : Below w.heap.size w w.drew := (Below.refl _ _).drew
 replace XG := Lib.hid (XG.out.on hb)
 replace XR := Lib.hid (XR.out.on hb)
 replace OA := Lib.hid (OA.out.on hb)
 replace OB := Lib.hid (OB.out.on hb)
 replace OC := Lib.hid (OC.out.on hb)
 have C := Lib.hid (C0.out.on hb)
 have BK := Lib.hid (Keep.of_below (p := p) hb)
 have BS := Lib.hid (show w.heap.size ≤ w.drew.heap.size from hb.size)
 have CP := Lib.hid C0.out.lt
 clear hb
 refine wp_region_noPanic ?_
 refine wp_region_held_drew (S := (fun w' => w'.cell? ⟨g, 0, none⟩ = some (.slice xa na ca) ∧ w'.cell? ⟨g, 1, none⟩ = some (.slice xb nb cb) ∧ w'.cell? ⟨g, 2, none⟩ = some (.slice xc nc cc) ∧ w'.cell? ⟨g, 3, none⟩ = some (.int .i64 f) ∧ w'.cell? ⟨g, 4, none⟩ = some (.int .i64 0))) (by kernel_rfl) ?_ (fun hHeld => ?_)
 ·
  exact ⟨XG.out.cell 0, XG.out.cell 1, XG.out.cell 2, XG.out.cell 3, XG.out.cell 4⟩
 generalize w.drew = wd at *
 refine wpAnyH_take (i := 0) (oi := ⟨some 26, .move (.tmp 0), 55, "l08_thing.go:75", #[], none⟩) (v := ?_) rfl (by kernel_rfl) (by kernel_rfl) (by kernel_rfl) (fun _ _ _ h => h) (Or.inl ⟨by rfl, ?_⟩) (by assumption) ?_
 rotate_left
 ·
  intro w' hSw; (try dsimp only at hSw); first | (go_simp; done) | (go_simp; with_reducible rfl)
 (try simp only [Act.put, Row.pB0, Row.pB1, Row.pB2])
 refine wpAnyH_take (i := 2) (oi := ⟨some 28, .load 31 (.tmp 4), 31, "l08_thing.go:75", #[], none⟩) (v := ?_) rfl (by kernel_rfl) (by kernel_rfl) (by kernel_rfl) (fun _ _ _ h => h) (Or.inl ⟨by rfl, ?_⟩) (by assumption) ?_
 rotate_left
 ·
  intro w' hSw; (try dsimp only at hSw); first | (go_simp; done) | (go_simp; with_reducible rfl)
 (try simp only [Act.put, Row.pB0, Row.pB1, Row.pB2])
 refine wpAnyH_ready (rs := [1]) (by kernel_rfl) (by simp) ?_
 refine AllReadyH.cons (o := ⟨some 27, .call ⟨.value (.func 90), #[.tmp 26], #[55]⟩, 3, "l08_thing.go:75", #[⟨0, .data⟩], none⟩) rfl (fun K hK => ?_) AllReadyH.nil
 go_simp
 refine (l8Secret w0 p v l _ C.out).mono ?_
 rintro e wn1 ⟨y, rfl, ⟨t, rfl, ht0, ht1⟩, hc, hk⟩
 replace XG := Lib.hid (blk_keep XG.out hk HGP.out)
 replace XR := Lib.hid (blk_keep XR.out hk HRP.out)
 replace OA := Lib.hid (rown_keep OA.out hk HPN.out)
 replace OB := Lib.hid (own_keep OB.out hk HPN.out)
 replace OC := Lib.hid (holdS_keep OC.out C.out hk)
 replace C := Lib.hid hc; replace BK := Lib.hid (BK.out.trans hk); replace BS := Lib.hid (Nat.le_trans BS.out hk.size); clear hc hk
 (try go_wp2_with fail)
 clear hHeld
 refine hK.out _ _ ?_ (fun hHeld => ?_)
 ·
  (try dsimp only); exact ⟨XG.out.cell 0, XG.out.cell 1, XG.out.cell 2, XG.out.cell 3, XG.out.cell 4⟩
 clear hK K
 (try simp only [Act.put, Row.pB0, Row.pB1, Row.pB2])
 refine wpAnyH_ready (rs := [3]) (by kernel_rfl) (by simp) ?_
 refine AllReadyH.cons (o := ⟨some 29, .call ⟨.value (.func 89), #[.tmp 27, .tmp 28], #[3, 31]⟩, 31, "l08_thing.go:75", #[⟨1, .data⟩, ⟨2, .data⟩, ⟨1, .chain⟩], none⟩) rfl (fun K hK => ?_) AllReadyH.nil
 go_simp
 refine (signV xa xb xc na ca nb cb nc cc (la, lb, lc, f, 0) t _ ⟨OA.out.holds, Sl.Own.holds OB.out, OC.out⟩ HBY.out (Nat.le_trans HBL.out (by decide))).mono ?_
 rintro e wn2 ⟨ya, ma, da, yb, mb, db, yc, mc, dc_, M, rfl, ho, hM, hb⟩
 have OS := Lib.hid (ho.mono BS.out)
 have HM := Lib.hid hM; clear ho hM
 replace XG := Lib.hid (XG.out.on hb)
 replace XR := Lib.hid (XR.out.on hb)
 replace OA := Lib.hid (OA.out.on hb)
 replace OB := Lib.hid (OB.out.on hb)
 replace OC := Lib.hid (OC.out.on hb)
 replace C := Lib.hid (C.out.on hb); replace BK := Lib.hid (BK.out.trans (Keep.of_below hb)); replace BS := Lib.hid (Nat.le_trans BS.out hb.size); clear hb
 (try go_wp2_with fail)
 clear hHeld
 refine hK.out _ _ ?_ (fun hHeld => ?_)
 ·
  (try dsimp only); exact ⟨XG.out.cell 0, XG.out.cell 1, XG.out.cell 2, XG.out.cell 3, XG.out.cell 4⟩
 clear hK K
 (try simp only [Act.put, Row.pB0, Row.pB1, Row.pB2])
 refine wpAnyH_ready (rs := [4]) (by kernel_rfl) (by simp) ?_
 refine AllReadyH.cons (o := ⟨none, .store 31 (.tmp 2) (.tmp 29), 0, "l08_thing.go:75", #[⟨3, .data⟩, ⟨3, .chain⟩, ⟨0, .phase⟩, ⟨1, .phase⟩, ⟨2, .phase⟩, ⟨3, .phase⟩], none⟩) rfl (fun K hK => ?_) AllReadyH.nil
 obtain ⟨r0, r1, r2, r3, r4⟩ := keepC5 XR.out
 have t0 := XR.out.frozen 0; have t1 := XR.out.frozen 1; have t2 := XR.out.frozen 2; have t3 := XR.out.frozen 3; have t4 := XR.out.frozen 4
 have X5 := Lib.hid (blk5 (q := r) (a := .slice ya ma da) (b := .slice yb mb db) (c := .slice yc mc dc_) (f := f) (s := M) XG.out HGR.out)
 go_simp
 clear hHeld
 refine hK.out _ _ ?_ (fun hHeld => ?_)
 ·
  (try dsimp only); exact ⟨X5.out.cell 0, X5.out.cell 1, X5.out.cell 2, X5.out.cell 3, X5.out.cell 4⟩
 clear hK K
 (try simp only [Act.put, Row.pB0, Row.pB1, Row.pB2])
 refine wpAnyH_done (by kernel_rfl) ?_ _
 exact NoPanic.normal (HQ.out _ _ _ _ _ _ _ _ _ _ _ _ _ t M _ XR.out OS.out HM.out ht0 ht1 C.out BK.out)
end Go.Proofs.YtfglcmanmfenpaaGreat.Draw
