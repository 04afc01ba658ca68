/- Contracts and mathematics, joined: DrawR3. No conditions but those that each states. -/
import Derived.Test.YtnblopilgfdjkaaGreatB24
/- The model's DrawSignWithKey. What was in memory stays as it was. -/
namespace Go.Proofs.YtnblopilgfdjkaaGreat.Draw
open Go.ChangeShapes Go.WideShapes Go.ChangeAt Go.RowKit Go.Instr
open Go.Proofs.YtnblopilgfdjkaaGreat.Row (bulk bulk_append bulk_one bulk_nil bulk_cons OwnK HB Dt dc aggD bulkD advD WfD kD kB kN kD_of kB_of kN_of)
open Go.Proofs.YtnblopilgfdjkaaGreat.Row.Ring (Ent encE szE kindE strip strip_append strip_length TabH TabO TabOwn TabHolds addK smT kK.At k1.At)
open Go.Proofs.YtnblopilgfdjkaaGreat.Ret (NC Blk Box)
set_option linter.unusedVariables false
set_option maxRecDepth 100000

set_option maxRecDepth 100000 in
set_option maxHeartbeats 4000000 in
theorem dsw5 {Q : Exit → Act → World → Prop} {v0 v1 v2 v5 v6 v11 v12 v13 v14 v15 v16 v17 v18 v19 v20 v21 v22 v23 v24 v25 v26 v27 v28 v29 v30 : Value} {w : World} {w0 : World} {p : Nat} {v : Value} {l : List UInt8} (C0 : Hid (Cur w0 p v l w)) {n c B q1 q2 r1 r2 nk ck nn cn : Nat} {xl xk xn : Option Addr} {L : List Ent} {lk ln : List ByteArray} (HL : Hid (RO B w (.slice xl n c) L)) (HPB : Hid (p < B)) (HK : Hid (HB B w (.slice xk nk ck) lk)) (HN : Hid (HB B w (.slice xn nn cn) ln)) (X1 : Hid (Box w q1 (.slice xk nk ck) 27)) (X2 : Hid (Box w q2 (.slice xn nn cn) 27)) (R1 : Hid (Box w r1 (.slice none 0 0) 27)) (R2 : Hid (Box w r2 (.slice none 0 0) 27)) (H1P : Hid (q1 ≠ p)) (H2P : Hid (q2 ≠ p)) (G1P : Hid (r1 ≠ p)) (G2P : Hid (r2 ≠ p)) (D11 : Hid (q1 ≠ r1)) (D12 : Hid (q1 ≠ r2)) (D21 : Hid (q2 ≠ r1)) (D22 : Hid (q2 ≠ r2)) (DRR : Hid (r2 ≠ r1))
    (hQ : ∀ (u21 u22 u23 u24 u25 u26 u27 u28 u29 u30 : Value) (xD : Option Addr) (nD cD : Nat) (lb : List Int) (a : Int)  (wx : World), RO B wx (.slice xl n c) L → HB B wx (.slice xk nk ck) lk → HB B wx (.slice xn nn cn) ln → Box wx r1 (.slice none 0 0) 27 → Box wx r2 (.slice none 0 0) 27 → Sl.Own 5 .u8 w.heap.size wx (.slice xD nD cD) lb → Sl.Byt lb → lb.length ≤ 4 → Cur w0 p v l wx → Keep p w wx → Q .normal ⟨#[v0, v1, .slice xl n c, .pointer (some ⟨r1, 0, none⟩), .pointer (some ⟨r2, 0, none⟩), .slice xD nD cD, .int .i64 a, .pointer (some ⟨p, 0, none⟩), .slice xl n c, .pointer (some ⟨q1, 0, none⟩), .pointer (some ⟨q2, 0, none⟩), v11, v12, v13, v14, v15, v16, v17, v18, v19, v20, u21, u22, u23, u24, u25, u26, u27, u28, u29, u30], []⟩ ((wx.setCell ⟨r1, 0, none⟩ (.slice xk nk ck)).setCell ⟨r2, 0, none⟩ (.slice xn nn cn))) :
    (Code.region 5 #[{ dst := some 21, op := Op.move (Operand.tmp 8), type := 24, pos := "l09_key.go:125", after := #[], guard := none },
      { dst := some 22, op := Op.load 27 (Operand.tmp 9), type := 27, pos := "l09_key.go:125", after := #[{ on := 10, ground := Ground.gcOnly Departure.lateStores }], guard := none },
      { dst := some 23, op := Op.load 27 (Operand.tmp 10), type := 27, pos := "l09_key.go:125", after := #[{ on := 11, ground := Ground.gcOnly Departure.lateStores }], guard := none },
      { dst := some 24, op := Op.move (Operand.tmp 7), type := 55, pos := "l09_key.go:125", after := #[], guard := none },
      { dst := some 25, op := Op.move (Operand.tmp 7), type := 55, pos := "l09_key.go:125", after := #[], guard := none },
      { dst := some 26, op := Op.call { callee := Callee.value (Operand.func 34), args := #[Operand.tmp 25, Operand.const (Value.int IntKind.i64 4)], argTypes := #[55, 3] }, type := 3, pos := "l09_key.go:125", after := #[{ on := 4, ground := Ground.data }], guard := none },
      { dst := some 27, op := Op.call { callee := Callee.value (Operand.func 33), args := #[Operand.tmp 24, Operand.tmp 26], argTypes := #[55, 3] }, type := 22, pos := "l09_key.go:125", after := #[{ on := 3, ground := Ground.data }, { on := 5, ground := Ground.data }, { on := 5, ground := Ground.chain }], guard := none },
      { dst := some 28, op := Op.move (Operand.tmp 7), type := 55, pos := "l09_key.go:125", after := #[], guard := none },
      { dst := some 29, op := Op.buildSlice 47 3 #[(0, Operand.const (Value.int IntKind.i64 50)), (1, Operand.const (Value.int IntKind.i64 60)), (2, Operand.const (Value.int IntKind.i64 (-1)))], type := 47, pos := "l09_key.go:125", after := #[], guard := none },
      { dst := some 30, op := Op.call { callee := Callee.value (Operand.func 35), args := #[Operand.tmp 28, Operand.tmp 29], argTypes := #[55, 47] }, type := 3, pos := "l09_key.go:125", after := #[{ on := 7, ground := Ground.data }, { on := 8, ground := Ground.data }, { on := 6, ground := Ground.chain }], guard := none },
      { dst := some 2, op := Op.assign (Operand.tmp 21), type := 24, pos := "l09_key.go:125", after := #[{ on := 0, ground := Ground.data }, { on := 9, ground := Ground.chain }, { on := 0, ground := Ground.phase }, { on := 1, ground := Ground.textOnly Departure.lateStores }, { on := 2, ground := Ground.textOnly Departure.lateStores }, { on := 3, ground := Ground.textOnly Departure.lateStores }, { on := 4, ground := Ground.textOnly Departure.lateStores }, { on := 5, ground := Ground.textOnly Departure.lateStoresUnsure }, { on := 6, ground := Ground.textOnly Departure.lateStoresUnsure }, { on := 7, ground := Ground.textOnly Departure.lateStores }, { on := 8, ground := Ground.textOnly Departure.lateStores }, { on := 9, ground := Ground.textOnly Departure.lateStoresUnsure }], guard := none },
      { dst := none, op := Op.store 27 (Operand.tmp 3) (Operand.tmp 22), type := 0, pos := "l09_key.go:125", after := #[{ on := 1, ground := Ground.data }, { on := 10, ground := Ground.chain }, { on := 0, ground := Ground.phase }, { on := 1, ground := Ground.phase }, { on := 2, ground := Ground.textOnly Departure.lateStores }, { on := 3, ground := Ground.textOnly Departure.lateStores }, { on := 4, ground := Ground.textOnly Departure.lateStores }, { on := 5, ground := Ground.textOnly Departure.lateStoresUnsure }, { on := 6, ground := Ground.textOnly Departure.lateStoresUnsure }, { on := 7, ground := Ground.textOnly Departure.lateStores }, { on := 8, ground := Ground.textOnly Departure.lateStores }, { on := 9, ground := Ground.textOnly Departure.lateStoresUnsure }, { on := 10, ground := Ground.phase }], guard := none },
      { dst := none, op := Op.store 27 (Operand.tmp 4) (Operand.tmp 23), type := 0, pos := "l09_key.go:125", after := #[{ on := 2, ground := Ground.data }, { on := 11, ground := Ground.chain }, { on := 0, ground := Ground.phase }, { on := 1, ground := Ground.phase }, { on := 2, ground := Ground.phase }, { on := 3, ground := Ground.textOnly Departure.lateStores }, { on := 4, ground := Ground.textOnly Departure.lateStores }, { on := 5, ground := Ground.textOnly Departure.lateStoresUnsure }, { on := 6, ground := Ground.textOnly Departure.lateStoresUnsure }, { on := 7, ground := Ground.textOnly Departure.lateStores }, { on := 8, ground := Ground.textOnly Departure.lateStores }, { on := 9, ground := Ground.textOnly Departure.lateStoresUnsure }, { on := 10, ground := Ground.phase }, { on := 11, ground := Ground.phase }], guard := none },
      { dst := some 5, op := Op.assign (Operand.tmp 27), type := 22, pos := "l09_key.go:125", after := #[{ on := 6, ground := Ground.data }, { on := 12, ground := Ground.chain }, { on := 0, ground := Ground.phase }, { on := 1, ground := Ground.phase }, { on := 2, ground := Ground.phase }, { on := 3, ground := Ground.phase }, { on := 4, ground := Ground.phase }, { on := 5, ground := Ground.phase }, { on := 6, ground := Ground.phase }, { on := 7, ground := Ground.textOnly Departure.lateStores }, { on := 8, ground := Ground.textOnly Departure.lateStores }, { on := 9, ground := Ground.textOnly Departure.lateStoresUnsure }, { on := 10, ground := Ground.phase }, { on := 11, ground := Ground.phase }, { on := 12, ground := Ground.phase }], guard := none },
      { dst := some 6, op := Op.assign (Operand.tmp 30), type := 3, pos := "l09_key.go:125", after := #[{ on := 9, ground := Ground.data }, { on := 13, ground := Ground.chain }, { on := 0, ground := Ground.phase }, { on := 1, ground := Ground.phase }, { on := 2, ground := Ground.phase }, { on := 3, ground := Ground.phase }, { on := 4, ground := Ground.phase }, { on := 5, ground := Ground.phase }, { on := 6, ground := Ground.phase }, { on := 7, ground := Ground.phase }, { on := 8, ground := Ground.phase }, { on := 9, ground := Ground.phase }, { on := 10, ground := Ground.phase }, { on := 11, ground := Ground.phase }, { on := 12, ground := Ground.phase }, { on := 13, ground := Ground.phase }], guard := none }] true).wp Tryz.prog Q ⟨#[v0, v1, v2, .pointer (some ⟨r1, 0, none⟩), .pointer (some ⟨r2, 0, none⟩), v5, v6, .pointer (some ⟨p, 0, none⟩), .slice xl n c, .pointer (some ⟨q1, 0, none⟩), .pointer (some ⟨q2, 0, none⟩), v11, v12, v13, v14, v15, v16, v17, v18, v19, v20, v21, v22, v23, v24, v25, v26, v27, v28, v29, v30], []⟩ w := by
  have HQ := Lib.hid hQ; clear hQ
  have hb : Below w.heap.size w w.drew := (Below.refl _ _).drew
  replace HL := Lib.hid (HL.out.on hb)
  replace HK := Lib.hid (HK.out.on hb)
  replace HN := Lib.hid (HN.out.on hb)
  replace X1 := Lib.hid (X1.out.on hb)
  replace X2 := Lib.hid (X2.out.on hb)
  replace R1 := Lib.hid (R1.out.on hb)
  replace R2 := Lib.hid (R2.out.on hb)
  have C := Lib.hid (C0.out.on hb)
  have BK := Lib.hid (Keep.of_below (p := p) hb)
  have BS := Lib.hid (show w.heap.size ≤ w.drew.heap.size from hb.size)
  have CP := Lib.hid C0.out.lt
  clear hb
  refine wp_region_noPanic ?_
  refine wp_region_held_drew (S := (fun w' => w'.cell? ⟨q1, 0, none⟩ = some (.slice xk nk ck) ∧ w'.cell? ⟨q2, 0, none⟩ = some (.slice xn nn cn))) (by kernel_rfl) ?_ (fun hHeld => ?_)
  · exact ⟨X1.out.cell, X2.out.cell⟩
  generalize w.drew = wd at *
  refine wpAnyH_take (i := 0) (oi := { dst := some 21, op := Op.move (Operand.tmp 8), type := 24, pos := "l09_key.go:125", after := #[], guard := none }) (v := ?_) rfl (by kernel_rfl) (by kernel_rfl) (by kernel_rfl) (fun _ _ _ h => h) (Or.inl ⟨by rfl, ?_⟩) (by assumption) ?_
  rotate_left
  · intro w' hSw; (try dsimp only at hSw); first | (go_simp; done) | (go_simp; with_reducible rfl)
  (try simp only [Act.put, List.setIfInBounds_toArray, List.set_cons_zero, List.set_cons_succ])
  refine wpAnyH_take (i := 1) (oi := { dst := some 22, op := Op.load 27 (Operand.tmp 9), type := 27, pos := "l09_key.go:125", after := #[{ on := 10, ground := Ground.gcOnly Departure.lateStores }], guard := none }) (v := ?_) rfl (by kernel_rfl) (by kernel_rfl) (by kernel_rfl) (fun _ _ _ h => h) (Or.inl ⟨by rfl, ?_⟩) (by assumption) ?_
  rotate_left
  · intro w' hSw; (try dsimp only at hSw); first | (go_simp; done) | (go_simp; with_reducible rfl)
  (try simp only [Act.put, List.setIfInBounds_toArray, List.set_cons_zero, List.set_cons_succ])
  refine wpAnyH_take (i := 2) (oi := { dst := some 23, op := Op.load 27 (Operand.tmp 10), type := 27, pos := "l09_key.go:125", after := #[{ on := 11, ground := Ground.gcOnly Departure.lateStores }], guard := none }) (v := ?_) rfl (by kernel_rfl) (by kernel_rfl) (by kernel_rfl) (fun _ _ _ h => h) (Or.inl ⟨by rfl, ?_⟩) (by assumption) ?_
  rotate_left
  · intro w' hSw; (try dsimp only at hSw); first | (go_simp; done) | (go_simp; with_reducible rfl)
  (try simp only [Act.put, List.setIfInBounds_toArray, List.set_cons_zero, List.set_cons_succ])
  refine wpAnyH_take (i := 3) (oi := { dst := some 24, op := Op.move (Operand.tmp 7), type := 55, pos := "l09_key.go:125", after := #[], guard := none }) (v := ?_) rfl (by kernel_rfl) (by kernel_rfl) (by kernel_rfl) (fun _ _ _ h => h) (Or.inl ⟨by rfl, ?_⟩) (by assumption) ?_
  rotate_left
  · intro w' hSw; (try dsimp only at hSw); first | (go_simp; done) | (go_simp; with_reducible rfl)
  (try simp only [Act.put, List.setIfInBounds_toArray, List.set_cons_zero, List.set_cons_succ])
  refine wpAnyH_take (i := 4) (oi := { dst := some 25, op := Op.move (Operand.tmp 7), type := 55, pos := "l09_key.go:125", after := #[], guard := none }) (v := ?_) rfl (by kernel_rfl) (by kernel_rfl) (by kernel_rfl) (fun _ _ _ h => h) (Or.inl ⟨by rfl, ?_⟩) (by assumption) ?_
  rotate_left
  · intro w' hSw; (try dsimp only at hSw); first | (go_simp; done) | (go_simp; with_reducible rfl)
  (try simp only [Act.put, List.setIfInBounds_toArray, List.set_cons_zero, List.set_cons_succ])
  refine wpAnyH_take (i := 7) (oi := { dst := some 28, op := Op.move (Operand.tmp 7), type := 55, pos := "l09_key.go:125", after := #[], guard := none }) (v := ?_) rfl (by kernel_rfl) (by kernel_rfl) (by kernel_rfl) (fun _ _ _ h => h) (Or.inl ⟨by rfl, ?_⟩) (by assumption) ?_
  rotate_left
  · intro w' hSw; (try dsimp only at hSw); first | (go_simp; done) | (go_simp; with_reducible rfl)
  (try simp only [Act.put, List.setIfInBounds_toArray, List.set_cons_zero, List.set_cons_succ])
  refine wpAnyH_ready (rs := [5, 8]) (by kernel_rfl) (by simp) ?_
  refine AllReadyH.cons (o := { dst := some 26, op := Op.call { callee := Callee.value (Operand.func 34), args := #[Operand.tmp 25, Operand.const (Value.int IntKind.i64 4)], argTypes := #[55, 3] }, type := 3, pos := "l09_key.go:125", after := #[{ on := 4, ground := Ground.data }], guard := none }) rfl (fun K hK => ?_) ?_
  ·
    go_simp
    refine (below w0 p v l wd 4 C.out).mono ?_
    rintro e wn1 ⟨y, rfl, ⟨r, rfl, hr, _⟩, hc, hk⟩
    have hr := hr (by omega)
    obtain ⟨r, rfl⟩ := Int.eq_ofNat_of_zero_le hr.1
    have hr4 : r ≤ 4 := by omega
    clear hr
    replace HL := Lib.hid (HL.out.keep hk HPB.out)
    replace HK := Lib.hid (hb_keep HK.out hk HPB.out)
    replace HN := Lib.hid (hb_keep HN.out hk HPB.out)
    replace X1 := Lib.hid (box_keep X1.out hk H1P.out)
    replace X2 := Lib.hid (box_keep X2.out hk H2P.out)
    replace R1 := Lib.hid (box_keep R1.out hk G1P.out)
    replace R2 := Lib.hid (box_keep R2.out hk G2P.out)
    replace C := Lib.hid hc; replace BK := Lib.hid (BK.out.trans hk); replace BS := Lib.hid (Nat.le_trans BS.out hk.size); clear hc hk
    (try go_wp2_with fail)
    clear hHeld
    refine hK.out _ _ ?_ (fun hHeld => ?_)
    · (try dsimp only); exact ⟨X1.out.cell, X2.out.cell⟩
    clear hK K
    (try simp only [Act.put, List.setIfInBounds_toArray, List.set_cons_zero, List.set_cons_succ])
    refine wpAnyH_ready (rs := [6, 8]) (by kernel_rfl) (by simp) ?_
    refine AllReadyH.cons (o := { dst := some 27, op := Op.call { callee := Callee.value (Operand.func 33), args := #[Operand.tmp 24, Operand.tmp 26], argTypes := #[55, 3] }, type := 22, pos := "l09_key.go:125", after := #[{ on := 3, ground := Ground.data }, { on := 5, ground := Ground.data }, { on := 5, ground := Ground.chain }], guard := none }) rfl (fun K hK => ?_) ?_
    ·
      go_simp
      refine (bytes w0 p v l wn1 r (by omega) C.out).mono ?_
      rintro e wn2 ⟨y, rfl, ⟨lb, ho, hby, hb0, hb1⟩, hc, hk⟩
      obtain ⟨xD, nD, cD, rfl, -, -, ho⟩ := Row.Own.shapeN (enc := Value.int .u8) ho
      have HD := Lib.hid (show Sl.Own 5 .u8 w.heap.size wn2 (.slice xD nD cD) lb from Sl.Own.mono ho BS.out); clear ho
      have HBY := Lib.hid hby; clear hby
      replace HL := Lib.hid (HL.out.keep hk HPB.out)
      replace HK := Lib.hid (hb_keep HK.out hk HPB.out)
      replace HN := Lib.hid (hb_keep HN.out hk HPB.out)
      replace X1 := Lib.hid (box_keep X1.out hk H1P.out)
      replace X2 := Lib.hid (box_keep X2.out hk H2P.out)
      replace R1 := Lib.hid (box_keep R1.out hk G1P.out)
      replace R2 := Lib.hid (box_keep R2.out hk G2P.out)
      replace C := Lib.hid hc; replace BK := Lib.hid (BK.out.trans hk); replace BS := Lib.hid (Nat.le_trans BS.out hk.size); clear hc hk
      (try go_wp2_with fail)
      clear hHeld
      refine hK.out _ _ ?_ (fun hHeld => ?_)
      · (try dsimp only); exact ⟨X1.out.cell, X2.out.cell⟩
      clear hK K
      (try simp only [Act.put, List.setIfInBounds_toArray, List.set_cons_zero, List.set_cons_succ])
      refine wpAnyH_ready (rs := [8]) (by kernel_rfl) (by simp) ?_
      refine AllReadyH.cons (o := { dst := some 29, op := Op.buildSlice 47 3 #[(0, Operand.const (Value.int IntKind.i64 50)), (1, Operand.const (Value.int IntKind.i64 60)), (2, Operand.const (Value.int IntKind.i64 (-1)))], type := 47, pos := "l09_key.go:125", after := #[], guard := none }) rfl (fun K hK => ?_) AllReadyH.nil
      go_simp
      have hb : Below wn2.heap.size wn2 (wn2.alloc (.cells #[.int .i64 50, .int .i64 60, .int .i64 (-1)] 3)) := (Below.refl _ _).alloc (Nat.le_refl _) _
      obtain ⟨bi, hbi⟩ : ∃ b, b = wn2.heap.size := ⟨_, rfl⟩
      have XI := Lib.hid (show Blk (wn2.alloc (.cells #[.int .i64 50, .int .i64 60, .int .i64 (-1)] 3)) bi #[.int .i64 50, .int .i64 60, .int .i64 (-1)] 3 from by rw [hbi]; exact Blk.new wn2 _ _)
      have HIP := Lib.hid (show bi ≠ p from by rw [hbi]; have h5 := C.out.lt; omega)
      rw [← hbi]
      clear hbi
      replace HL := Lib.hid (HL.out.on hb)
      replace HK := Lib.hid (HK.out.on hb)
      replace HN := Lib.hid (HN.out.on hb)
      replace X1 := Lib.hid (X1.out.on hb)
      replace X2 := Lib.hid (X2.out.on hb)
      replace R1 := Lib.hid (R1.out.on hb)
      replace R2 := Lib.hid (R2.out.on hb)
      replace HD := Lib.hid (HD.out.on hb)
      replace C := Lib.hid (C.out.on hb); replace BK := Lib.hid (BK.out.trans (Keep.of_below hb)); replace BS := Lib.hid (Nat.le_trans BS.out hb.size); clear hb
      generalize wn2.alloc (.cells #[.int .i64 50, .int .i64 60, .int .i64 (-1)] 3) = wn3 at *
      clear hHeld
      refine hK.out _ _ ?_ (fun hHeld => ?_)
      · (try dsimp only); exact ⟨X1.out.cell, X2.out.cell⟩
      clear hK K
      (try simp only [Act.put, List.setIfInBounds_toArray, List.set_cons_zero, List.set_cons_succ])
      refine wpAnyH_ready (rs := [9]) (by kernel_rfl) (by simp) ?_
      refine AllReadyH.cons (o := { dst := some 30, op := Op.call { callee := Callee.value (Operand.func 35), args := #[Operand.tmp 28, Operand.tmp 29], argTypes := #[55, 47] }, type := 3, pos := "l09_key.go:125", after := #[{ on := 7, ground := Ground.data }, { on := 8, ground := Ground.data }, { on := 6, ground := Ground.chain }], guard := none }) rfl (fun K hK => ?_) AllReadyH.nil
      go_simp
      refine (intPick3 w0 p v l wn3 C.out XI.out HIP.out).mono ?_
      rintro e wn4 ⟨y, rfl, ⟨a, rfl⟩, hc, hk⟩
      replace HL := Lib.hid (HL.out.keep hk HPB.out)
      replace HK := Lib.hid (hb_keep HK.out hk HPB.out)
      replace HN := Lib.hid (hb_keep HN.out hk HPB.out)
      replace X1 := Lib.hid (box_keep X1.out hk H1P.out)
      replace X2 := Lib.hid (box_keep X2.out hk H2P.out)
      replace R1 := Lib.hid (box_keep R1.out hk G1P.out)
      replace R2 := Lib.hid (box_keep R2.out hk G2P.out)
      replace HD := Lib.hid (own_keep HD.out hk CP.out)
      replace XI := Lib.hid (blk_keep XI.out hk HIP.out)
      replace C := Lib.hid hc; replace BK := Lib.hid (BK.out.trans hk); replace BS := Lib.hid (Nat.le_trans BS.out hk.size); clear hc hk
      (try go_wp2_with fail)
      clear hHeld
      refine hK.out _ _ ?_ (fun hHeld => ?_)
      · (try dsimp only); exact ⟨X1.out.cell, X2.out.cell⟩
      clear hK K
      (try simp only [Act.put, List.setIfInBounds_toArray, List.set_cons_zero, List.set_cons_succ])
      refine wpAnyH_take (i := 10) (oi := { dst := some 2, op := Op.assign (Operand.tmp 21), type := 24, pos := "l09_key.go:125", after := #[{ on := 0, ground := Ground.data }, { on := 9, ground := Ground.chain }, { on := 0, ground := Ground.phase }, { on := 1, ground := Ground.textOnly Departure.lateStores }, { on := 2, ground := Ground.textOnly Departure.lateStores }, { on := 3, ground := Ground.textOnly Departure.lateStores }, { on := 4, ground := Ground.textOnly Departure.lateStores }, { on := 5, ground := Ground.textOnly Departure.lateStoresUnsure }, { on := 6, ground := Ground.textOnly Departure.lateStoresUnsure }, { on := 7, ground := Ground.textOnly Departure.lateStores }, { on := 8, ground := Ground.textOnly Departure.lateStores }, { on := 9, ground := Ground.textOnly Departure.lateStoresUnsure }], guard := none }) (v := ?_) rfl (by kernel_rfl) (by kernel_rfl) (by kernel_rfl) (fun _ _ _ h => h) (Or.inl ⟨by rfl, ?_⟩) (by assumption) ?_
      rotate_left
      · intro w' hSw; (try dsimp only at hSw); first | (go_simp; done) | (go_simp; with_reducible rfl)
      (try simp only [Act.put, List.setIfInBounds_toArray, List.set_cons_zero, List.set_cons_succ])
      refine wpAnyH_ready (rs := [11]) (by kernel_rfl) (by simp) ?_
      refine AllReadyH.cons (o := { dst := none, op := Op.store 27 (Operand.tmp 3) (Operand.tmp 22), type := 0, pos := "l09_key.go:125", after := #[{ on := 1, ground := Ground.data }, { on := 10, ground := Ground.chain }, { on := 0, ground := Ground.phase }, { on := 1, ground := Ground.phase }, { on := 2, ground := Ground.textOnly Departure.lateStores }, { on := 3, ground := Ground.textOnly Departure.lateStores }, { on := 4, ground := Ground.textOnly Departure.lateStores }, { on := 5, ground := Ground.textOnly Departure.lateStoresUnsure }, { on := 6, ground := Ground.textOnly Departure.lateStoresUnsure }, { on := 7, ground := Ground.textOnly Departure.lateStores }, { on := 8, ground := Ground.textOnly Departure.lateStores }, { on := 9, ground := Ground.textOnly Departure.lateStoresUnsure }, { on := 10, ground := Ground.phase }], guard := none }) rfl (fun K hK => ?_) AllReadyH.nil
      have r0 := R1.out.cell; have t0 := R1.out.frozen
      go_simp
      clear hHeld
      refine hK.out _ _ ?_ (fun hHeld => ?_)
      · (try dsimp only); exact ⟨cell_set1 X1.out.cell D11.out, cell_set1 X2.out.cell D21.out⟩
      clear hK K
      (try simp only [Act.put, List.setIfInBounds_toArray, List.set_cons_zero, List.set_cons_succ])
      refine wpAnyH_ready (rs := [12]) (by kernel_rfl) (by simp) ?_
      refine AllReadyH.cons (o := { dst := none, op := Op.store 27 (Operand.tmp 4) (Operand.tmp 23), type := 0, pos := "l09_key.go:125", after := #[{ on := 2, ground := Ground.data }, { on := 11, ground := Ground.chain }, { on := 0, ground := Ground.phase }, { on := 1, ground := Ground.phase }, { on := 2, ground := Ground.phase }, { on := 3, ground := Ground.textOnly Departure.lateStores }, { on := 4, ground := Ground.textOnly Departure.lateStores }, { on := 5, ground := Ground.textOnly Departure.lateStoresUnsure }, { on := 6, ground := Ground.textOnly Departure.lateStoresUnsure }, { on := 7, ground := Ground.textOnly Departure.lateStores }, { on := 8, ground := Ground.textOnly Departure.lateStores }, { on := 9, ground := Ground.textOnly Departure.lateStoresUnsure }, { on := 10, ground := Ground.phase }, { on := 11, ground := Ground.phase }], guard := none }) rfl (fun K hK => ?_) AllReadyH.nil
      have r0 := cell_set1 (j := 0) (y := .slice xk nk ck) R2.out.cell DRR.out; have t0 := (World.frozen?_setCell wn4 ⟨r1, 0, none⟩ ⟨r2, 0, none⟩ (.slice xk nk ck)).trans R2.out.frozen
      go_simp
      clear hHeld
      refine hK.out _ _ ?_ (fun hHeld => ?_)
      · (try dsimp only); exact ⟨cell_set1 (cell_set1 X1.out.cell D11.out) D12.out, cell_set1 (cell_set1 X2.out.cell D21.out) D22.out⟩
      clear hK K
      (try simp only [Act.put, List.setIfInBounds_toArray, List.set_cons_zero, List.set_cons_succ])
      refine wpAnyH_take (i := 13) (oi := { dst := some 5, op := Op.assign (Operand.tmp 27), type := 22, pos := "l09_key.go:125", after := #[{ on := 6, ground := Ground.data }, { on := 12, ground := Ground.chain }, { on := 0, ground := Ground.phase }, { on := 1, ground := Ground.phase }, { on := 2, ground := Ground.phase }, { on := 3, ground := Ground.phase }, { on := 4, ground := Ground.phase }, { on := 5, ground := Ground.phase }, { on := 6, ground := Ground.phase }, { on := 7, ground := Ground.textOnly Departure.lateStores }, { on := 8, ground := Ground.textOnly Departure.lateStores }, { on := 9, ground := Ground.textOnly Departure.lateStoresUnsure }, { on := 10, ground := Ground.phase }, { on := 11, ground := Ground.phase }, { on := 12, ground := Ground.phase }], guard := none }) (v := ?_) rfl (by kernel_rfl) (by kernel_rfl) (by kernel_rfl) (fun _ _ _ h => h) (Or.inl ⟨by rfl, ?_⟩) (by assumption) ?_
      rotate_left
      · intro w' hSw; (try dsimp only at hSw); first | (go_simp; done) | (go_simp; with_reducible rfl)
      (try simp only [Act.put, List.setIfInBounds_toArray, List.set_cons_zero, List.set_cons_succ])
      refine wpAnyH_take (i := 14) (oi := { dst := some 6, op := Op.assign (Operand.tmp 30), type := 3, pos := "l09_key.go:125", after := #[{ on := 9, ground := Ground.data }, { on := 13, ground := Ground.chain }, { on := 0, ground := Ground.phase }, { on := 1, ground := Ground.phase }, { on := 2, ground := Ground.phase }, { on := 3, ground := Ground.phase }, { on := 4, ground := Ground.phase }, { on := 5, ground := Ground.phase }, { on := 6, ground := Ground.phase }, { on := 7, ground := Ground.phase }, { on := 8, ground := Ground.phase }, { on := 9, ground := Ground.phase }, { on := 10, ground := Ground.phase }, { on := 11, ground := Ground.phase }, { on := 12, ground := Ground.phase }, { on := 13, ground := Ground.phase }], guard := none }) (v := ?_) rfl (by kernel_rfl) (by kernel_rfl) (by kernel_rfl) (fun _ _ _ h => h) (Or.inl ⟨by rfl, ?_⟩) (by assumption) ?_
      rotate_left
      · intro w' hSw; (try dsimp only at hSw); first | (go_simp; done) | (go_simp; with_reducible rfl)
      (try simp only [Act.put, List.setIfInBounds_toArray, List.set_cons_zero, List.set_cons_succ])
      refine wpAnyH_done (by kernel_rfl) ?_ _
      exact NoPanic.normal (HQ.out _ _ _ _ _ _ _ _ _ _ _ _ _ _ _ _ HL.out HK.out HN.out R1.out R2.out HD.out HBY.out (by omega) C.out BK.out)
    refine AllReadyH.cons (o := { dst := some 29, op := Op.buildSlice 47 3 #[(0, Operand.const (Value.int IntKind.i64 50)), (1, Operand.const (Value.int IntKind.i64 60)), (2, Operand.const (Value.int IntKind.i64 (-1)))], type := 47, pos := "l09_key.go:125", after := #[], guard := none }) rfl (fun K hK => ?_) AllReadyH.nil
    go_simp
    have hb : Below wn1.heap.size wn1 (wn1.alloc (.cells #[.int .i64 50, .int .i64 60, .int .i64 (-1)] 3)) := (Below.refl _ _).alloc (Nat.le_refl _) _
    obtain ⟨bi, hbi⟩ : ∃ b, b = wn1.heap.size := ⟨_, rfl⟩
    have XI := Lib.hid (show Blk (wn1.alloc (.cells #[.int .i64 50, .int .i64 60, .int .i64 (-1)] 3)) bi #[.int .i64 50, .int .i64 60, .int .i64 (-1)] 3 from by rw [hbi]; exact Blk.new wn1 _ _)
    have HIP := Lib.hid (show bi ≠ p from by rw [hbi]; have h5 := C.out.lt; omega)
    rw [← hbi]
    clear hbi
    replace HL := Lib.hid (HL.out.on hb)
    replace HK := Lib.hid (HK.out.on hb)
    replace HN := Lib.hid (HN.out.on hb)
    replace X1 := Lib.hid (X1.out.on hb)
    replace X2 := Lib.hid (X2.out.on hb)
    replace R1 := Lib.hid (R1.out.on hb)
    replace R2 := Lib.hid (R2.out.on hb)
    replace C := Lib.hid (C.out.on hb); replace BK := Lib.hid (BK.out.trans (Keep.of_below hb)); replace BS := Lib.hid (Nat.le_trans BS.out hb.size); clear hb
    generalize wn1.alloc (.cells #[.int .i64 50, .int .i64 60, .int .i64 (-1)] 3) = wn7 at *
    clear hHeld
    refine hK.out _ _ ?_ (fun hHeld => ?_)
    · (try dsimp only); exact ⟨X1.out.cell, X2.out.cell⟩
    clear hK K
    (try simp only [Act.put, List.setIfInBounds_toArray, List.set_cons_zero, List.set_cons_succ])
    refine wpAnyH_ready (rs := [6]) (by kernel_rfl) (by simp) ?_
    refine AllReadyH.cons (o := { dst := some 27, op := Op.call { callee := Callee.value (Operand.func 33), args := #[Operand.tmp 24, Operand.tmp 26], argTypes := #[55, 3] }, type := 22, pos := "l09_key.go:125", after := #[{ on := 3, ground := Ground.data }, { on := 5, ground := Ground.data }, { on := 5, ground := Ground.chain }], guard := none }) rfl (fun K hK => ?_) AllReadyH.nil
    go_simp
    refine (bytes w0 p v l wn7 r (by omega) C.out).mono ?_
    rintro e wn8 ⟨y, rfl, ⟨lb, ho, hby, hb0, hb1⟩, hc, hk⟩
    obtain ⟨xD, nD, cD, rfl, -, -, ho⟩ := Row.Own.shapeN (enc := Value.int .u8) ho
    have HD := Lib.hid (show Sl.Own 5 .u8 w.heap.size wn8 (.slice xD nD cD) lb from Sl.Own.mono ho BS.out); clear ho
    have HBY := Lib.hid hby; clear hby
    replace HL := Lib.hid (HL.out.keep hk HPB.out)
    replace HK := Lib.hid (hb_keep HK.out hk HPB.out)
    replace HN := Lib.hid (hb_keep HN.out hk HPB.out)
    replace X1 := Lib.hid (box_keep X1.out hk H1P.out)
    replace X2 := Lib.hid (box_keep X2.out hk H2P.out)
    replace R1 := Lib.hid (box_keep R1.out hk G1P.out)
    replace R2 := Lib.hid (box_keep R2.out hk G2P.out)
    replace XI := Lib.hid (blk_keep XI.out hk HIP.out)
    replace C := Lib.hid hc; replace BK := Lib.hid (BK.out.trans hk); replace BS := Lib.hid (Nat.le_trans BS.out hk.size); clear hc hk
    (try go_wp2_with fail)
    clear hHeld
    refine hK.out _ _ ?_ (fun hHeld => ?_)
    · (try dsimp only); exact ⟨X1.out.cell, X2.out.cell⟩
    clear hK K
    (try simp only [Act.put, List.setIfInBounds_toArray, List.set_cons_zero, List.set_cons_succ])
    refine wpAnyH_ready (rs := [9]) (by kernel_rfl) (by simp) ?_
    refine AllReadyH.cons (o := { dst := some 30, op := Op.call { callee := Callee.value (Operand.func 35), args := #[Operand.tmp 28, Operand.tmp 29], argTypes := #[55, 47] }, type := 3, pos := "l09_key.go:125", after := #[{ on := 7, ground := Ground.data }, { on := 8, ground := Ground.data }, { on := 6, ground := Ground.chain }], guard := none }) rfl (fun K hK => ?_) AllReadyH.nil
    go_simp
    refine (intPick3 w0 p v l wn8 C.out XI.out HIP.out).mono ?_
    rintro e wn9 ⟨y, rfl, ⟨a, rfl⟩, hc, hk⟩
    replace HL := Lib.hid (HL.out.keep hk HPB.out)
    replace HK := Lib.hid (hb_keep HK.out hk HPB.out)
    replace HN := Lib.hid (hb_keep HN.out hk HPB.out)
    replace X1 := Lib.hid (box_keep X1.out hk H1P.out)
    replace X2 := Lib.hid (box_keep X2.out hk H2P.out)
    replace R1 := Lib.hid (box_keep R1.out hk G1P.out)
    replace R2 := Lib.hid (box_keep R2.out hk G2P.out)
    replace XI := Lib.hid (blk_keep XI.out hk HIP.out)
    replace HD := Lib.hid (own_keep HD.out hk CP.out)
    replace C := Lib.hid hc; replace BK := Lib.hid (BK.out.trans hk); replace BS := Lib.hid (Nat.le_trans BS.out hk.size); clear hc hk
    (try go_wp2_with fail)
    clear hHeld
    refine hK.out _ _ ?_ (fun hHeld => ?_)
    · (try dsimp only); exact ⟨X1.out.cell, X2.out.cell⟩
    clear hK K
    (try simp only [Act.put, List.setIfInBounds_toArray, List.set_cons_zero, List.set_cons_succ])
    refine wpAnyH_take (i := 10) (oi := { dst := some 2, op := Op.assign (Operand.tmp 21), type := 24, pos := "l09_key.go:125", after := #[{ on := 0, ground := Ground.data }, { on := 9, ground := Ground.chain }, { on := 0, ground := Ground.phase }, { on := 1, ground := Ground.textOnly Departure.lateStores }, { on := 2, ground := Ground.textOnly Departure.lateStores }, { on := 3, ground := Ground.textOnly Departure.lateStores }, { on := 4, ground := Ground.textOnly Departure.lateStores }, { on := 5, ground := Ground.textOnly Departure.lateStoresUnsure }, { on := 6, ground := Ground.textOnly Departure.lateStoresUnsure }, { on := 7, ground := Ground.textOnly Departure.lateStores }, { on := 8, ground := Ground.textOnly Departure.lateStores }, { on := 9, ground := Ground.textOnly Departure.lateStoresUnsure }], guard := none }) (v := ?_) rfl (by kernel_rfl) (by kernel_rfl) (by kernel_rfl) (fun _ _ _ h => h) (Or.inl ⟨by rfl, ?_⟩) (by assumption) ?_
    rotate_left
    · intro w' hSw; (try dsimp only at hSw); first | (go_simp; done) | (go_simp; with_reducible rfl)
    (try simp only [Act.put, List.setIfInBounds_toArray, List.set_cons_zero, List.set_cons_succ])
    refine wpAnyH_ready (rs := [11]) (by kernel_rfl) (by simp) ?_
    refine AllReadyH.cons (o := { dst := none, op := Op.store 27 (Operand.tmp 3) (Operand.tmp 22), type := 0, pos := "l09_key.go:125", after := #[{ on := 1, ground := Ground.data }, { on := 10, ground := Ground.chain }, { on := 0, ground := Ground.phase }, { on := 1, ground := Ground.phase }, { on := 2, ground := Ground.textOnly Departure.lateStores }, { on := 3, ground := Ground.textOnly Departure.lateStores }, { on := 4, ground := Ground.textOnly Departure.lateStores }, { on := 5, ground := Ground.textOnly Departure.lateStoresUnsure }, { on := 6, ground := Ground.textOnly Departure.lateStoresUnsure }, { on := 7, ground := Ground.textOnly Departure.lateStores }, { on := 8, ground := Ground.textOnly Departure.lateStores }, { on := 9, ground := Ground.textOnly Departure.lateStoresUnsure }, { on := 10, ground := Ground.phase }], guard := none }) rfl (fun K hK => ?_) AllReadyH.nil
    have r0 := R1.out.cell; have t0 := R1.out.frozen
    go_simp
    clear hHeld
    refine hK.out _ _ ?_ (fun hHeld => ?_)
    · (try dsimp only); exact ⟨cell_set1 X1.out.cell D11.out, cell_set1 X2.out.cell D21.out⟩
    clear hK K
    (try simp only [Act.put, List.setIfInBounds_toArray, List.set_cons_zero, List.set_cons_succ])
    refine wpAnyH_ready (rs := [12]) (by kernel_rfl) (by simp) ?_
    refine AllReadyH.cons (o := { dst := none, op := Op.store 27 (Operand.tmp 4) (Operand.tmp 23), type := 0, pos := "l09_key.go:125", after := #[{ on := 2, ground := Ground.data }, { on := 11, ground := Ground.chain }, { on := 0, ground := Ground.phase }, { on := 1, ground := Ground.phase }, { on := 2, ground := Ground.phase }, { on := 3, ground := Ground.textOnly Departure.lateStores }, { on := 4, ground := Ground.textOnly Departure.lateStores }, { on := 5, ground := Ground.textOnly Departure.lateStoresUnsure }, { on := 6, ground := Ground.textOnly Departure.lateStoresUnsure }, { on := 7, ground := Ground.textOnly Departure.lateStores }, { on := 8, ground := Ground.textOnly Departure.lateStores }, { on := 9, ground := Ground.textOnly Departure.lateStoresUnsure }, { on := 10, ground := Ground.phase }, { on := 11, ground := Ground.phase }], guard := none }) rfl (fun K hK => ?_) AllReadyH.nil
    have r0 := cell_set1 (j := 0) (y := .slice xk nk ck) R2.out.cell DRR.out; have t0 := (World.frozen?_setCell wn9 ⟨r1, 0, none⟩ ⟨r2, 0, none⟩ (.slice xk nk ck)).trans R2.out.frozen
    go_simp
    clear hHeld
    refine hK.out _ _ ?_ (fun hHeld => ?_)
    · (try dsimp only); exact ⟨cell_set1 (cell_set1 X1.out.cell D11.out) D12.out, cell_set1 (cell_set1 X2.out.cell D21.out) D22.out⟩
    clear hK K
    (try simp only [Act.put, List.setIfInBounds_toArray, List.set_cons_zero, List.set_cons_succ])
    refine wpAnyH_take (i := 13) (oi := { dst := some 5, op := Op.assign (Operand.tmp 27), type := 22, pos := "l09_key.go:125", after := #[{ on := 6, ground := Ground.data }, { on := 12, ground := Ground.chain }, { on := 0, ground := Ground.phase }, { on := 1, ground := Ground.phase }, { on := 2, ground := Ground.phase }, { on := 3, ground := Ground.phase }, { on := 4, ground := Ground.phase }, { on := 5, ground := Ground.phase }, { on := 6, ground := Ground.phase }, { on := 7, ground := Ground.textOnly Departure.lateStores }, { on := 8, ground := Ground.textOnly Departure.lateStores }, { on := 9, ground := Ground.textOnly Departure.lateStoresUnsure }, { on := 10, ground := Ground.phase }, { on := 11, ground := Ground.phase }, { on := 12, ground := Ground.phase }], guard := none }) (v := ?_) rfl (by kernel_rfl) (by kernel_rfl) (by kernel_rfl) (fun _ _ _ h => h) (Or.inl ⟨by rfl, ?_⟩) (by assumption) ?_
    rotate_left
    · intro w' hSw; (try dsimp only at hSw); first | (go_simp; done) | (go_simp; with_reducible rfl)
    (try simp only [Act.put, List.setIfInBounds_toArray, List.set_cons_zero, List.set_cons_succ])
    refine wpAnyH_take (i := 14) (oi := { dst := some 6, op := Op.assign (Operand.tmp 30), type := 3, pos := "l09_key.go:125", after := #[{ on := 9, ground := Ground.data }, { on := 13, ground := Ground.chain }, { on := 0, ground := Ground.phase }, { on := 1, ground := Ground.phase }, { on := 2, ground := Ground.phase }, { on := 3, ground := Ground.phase }, { on := 4, ground := Ground.phase }, { on := 5, ground := Ground.phase }, { on := 6, ground := Ground.phase }, { on := 7, ground := Ground.phase }, { on := 8, ground := Ground.phase }, { on := 9, ground := Ground.phase }, { on := 10, ground := Ground.phase }, { on := 11, ground := Ground.phase }, { on := 12, ground := Ground.phase }, { on := 13, ground := Ground.phase }], guard := none }) (v := ?_) rfl (by kernel_rfl) (by kernel_rfl) (by kernel_rfl) (fun _ _ _ h => h) (Or.inl ⟨by rfl, ?_⟩) (by assumption) ?_
    rotate_left
    · intro w' hSw; (try dsimp only at hSw); first | (go_simp; done) | (go_simp; with_reducible rfl)
    (try simp only [Act.put, List.setIfInBounds_toArray, List.set_cons_zero, List.set_cons_succ])
    refine wpAnyH_done (by kernel_rfl) ?_ _
    exact NoPanic.normal (HQ.out _ _ _ _ _ _ _ _ _ _ _ _ _ _ _ _ HL.out HK.out HN.out R1.out R2.out HD.out HBY.out (by omega) C.out BK.out)
  refine AllReadyH.cons (o := { dst := some 29, op := Op.buildSlice 47 3 #[(0, Operand.const (Value.int IntKind.i64 50)), (1, Operand.const (Value.int IntKind.i64 60)), (2, Operand.const (Value.int IntKind.i64 (-1)))], type := 47, pos := "l09_key.go:125", after := #[], guard := none }) rfl (fun K hK => ?_) AllReadyH.nil
  go_simp
  have hb : Below wd.heap.size wd (wd.alloc (.cells #[.int .i64 50, .int .i64 60, .int .i64 (-1)] 3)) := (Below.refl _ _).alloc (Nat.le_refl _) _
  obtain ⟨bi, hbi⟩ : ∃ b, b = wd.heap.size := ⟨_, rfl⟩
  have XI := Lib.hid (show Blk (wd.alloc (.cells #[.int .i64 50, .int .i64 60, .int .i64 (-1)] 3)) bi #[.int .i64 50, .int .i64 60, .int .i64 (-1)] 3 from by rw [hbi]; exact Blk.new wd _ _)
  have HIP := Lib.hid (show bi ≠ p from by rw [hbi]; have h5 := C.out.lt; omega)
  rw [← hbi]
  clear hbi
  replace HL := Lib.hid (HL.out.on hb)
  replace HK := Lib.hid (HK.out.on hb)
  replace HN := Lib.hid (HN.out.on hb)
  replace X1 := Lib.hid (X1.out.on hb)
  replace X2 := Lib.hid (X2.out.on hb)
  replace R1 := Lib.hid (R1.out.on hb)
  replace R2 := Lib.hid (R2.out.on hb)
  replace C := Lib.hid (C.out.on hb); replace BK := Lib.hid (BK.out.trans (Keep.of_below hb)); replace BS := Lib.hid (Nat.le_trans BS.out hb.size); clear hb
  generalize wd.alloc (.cells #[.int .i64 50, .int .i64 60, .int .i64 (-1)] 3) = wn12 at *
  clear hHeld
  refine hK.out _ _ ?_ (fun hHeld => ?_)
  · (try dsimp only); exact ⟨X1.out.cell, X2.out.cell⟩
  clear hK K
  (try simp only [Act.put, List.setIfInBounds_toArray, List.set_cons_zero, List.set_cons_succ])
  refine wpAnyH_ready (rs := [5]) (by kernel_rfl) (by simp) ?_
  refine AllReadyH.cons (o := { dst := some 26, op := Op.call { callee := Callee.value (Operand.func 34), args := #[Operand.tmp 25, Operand.const (Value.int IntKind.i64 4)], argTypes := #[55, 3] }, type := 3, pos := "l09_key.go:125", after := #[{ on := 4, ground := Ground.data }], guard := none }) rfl (fun K hK => ?_) AllReadyH.nil
  go_simp
  refine (below w0 p v l wn12 4 C.out).mono ?_
  rintro e wn13 ⟨y, rfl, ⟨r, rfl, hr, _⟩, hc, hk⟩
  have hr := hr (by omega)
  obtain ⟨r, rfl⟩ := Int.eq_ofNat_of_zero_le hr.1
  have hr4 : r ≤ 4 := by omega
  clear hr
  replace HL := Lib.hid (HL.out.keep hk HPB.out)
  replace HK := Lib.hid (hb_keep HK.out hk HPB.out)
  replace HN := Lib.hid (hb_keep HN.out hk HPB.out)
  replace X1 := Lib.hid (box_keep X1.out hk H1P.out)
  replace X2 := Lib.hid (box_keep X2.out hk H2P.out)
  replace R1 := Lib.hid (box_keep R1.out hk G1P.out)
  replace R2 := Lib.hid (box_keep R2.out hk G2P.out)
  replace XI := Lib.hid (blk_keep XI.out hk HIP.out)
  replace C := Lib.hid hc; replace BK := Lib.hid (BK.out.trans hk); replace BS := Lib.hid (Nat.le_trans BS.out hk.size); clear hc hk
  (try go_wp2_with fail)
  clear hHeld
  refine hK.out _ _ ?_ (fun hHeld => ?_)
  · (try dsimp only); exact ⟨X1.out.cell, X2.out.cell⟩
  clear hK K
  (try simp only [Act.put, List.setIfInBounds_toArray, List.set_cons_zero, List.set_cons_succ])
  refine wpAnyH_ready (rs := [6]) (by kernel_rfl) (by simp) ?_
  refine AllReadyH.cons (o := { dst := some 27, op := Op.call { callee := Callee.value (Operand.func 33), args := #[Operand.tmp 24, Operand.tmp 26], argTypes := #[55, 3] }, type := 22, pos := "l09_key.go:125", after := #[{ on := 3, ground := Ground.data }, { on := 5, ground := Ground.data }, { on := 5, ground := Ground.chain }], guard := none }) rfl (fun K hK => ?_) AllReadyH.nil
  go_simp
  refine (bytes w0 p v l wn13 r (by omega) C.out).mono ?_
  rintro e wn14 ⟨y, rfl, ⟨lb, ho, hby, hb0, hb1⟩, hc, hk⟩
  obtain ⟨xD, nD, cD, rfl, -, -, ho⟩ := Row.Own.shapeN (enc := Value.int .u8) ho
  have HD := Lib.hid (show Sl.Own 5 .u8 w.heap.size wn14 (.slice xD nD cD) lb from Sl.Own.mono ho BS.out); clear ho
  have HBY := Lib.hid hby; clear hby
  replace HL := Lib.hid (HL.out.keep hk HPB.out)
  replace HK := Lib.hid (hb_keep HK.out hk HPB.out)
  replace HN := Lib.hid (hb_keep HN.out hk HPB.out)
  replace X1 := Lib.hid (box_keep X1.out hk H1P.out)
  replace X2 := Lib.hid (box_keep X2.out hk H2P.out)
  replace R1 := Lib.hid (box_keep R1.out hk G1P.out)
  replace R2 := Lib.hid (box_keep R2.out hk G2P.out)
  replace XI := Lib.hid (blk_keep XI.out hk HIP.out)
  replace C := Lib.hid hc; replace BK := Lib.hid (BK.out.trans hk); replace BS := Lib.hid (Nat.le_trans BS.out hk.size); clear hc hk
  (try go_wp2_with fail)
  clear hHeld
  refine hK.out _ _ ?_ (fun hHeld => ?_)
  · (try dsimp only); exact ⟨X1.out.cell, X2.out.cell⟩
  clear hK K
  (try simp only [Act.put, List.setIfInBounds_toArray, List.set_cons_zero, List.set_cons_succ])
  refine wpAnyH_ready (rs := [9]) (by kernel_rfl) (by simp) ?_
  refine AllReadyH.cons (o := { dst := some 30, op := Op.call { callee := Callee.value (Operand.func 35), args := #[Operand.tmp 28, Operand.tmp 29], argTypes := #[55, 47] }, type := 3, pos := "l09_key.go:125", after := #[{ on := 7, ground := Ground.data }, { on := 8, ground := Ground.data }, { on := 6, ground := Ground.chain }], guard := none }) rfl (fun K hK => ?_) AllReadyH.nil
  go_simp
  refine (intPick3 w0 p v l wn14 C.out XI.out HIP.out).mono ?_
  rintro e wn15 ⟨y, rfl, ⟨a, rfl⟩, hc, hk⟩
  replace HL := Lib.hid (HL.out.keep hk HPB.out)
  replace HK := Lib.hid (hb_keep HK.out hk HPB.out)
  replace HN := Lib.hid (hb_keep HN.out hk HPB.out)
  replace X1 := Lib.hid (box_keep X1.out hk H1P.out)
  replace X2 := Lib.hid (box_keep X2.out hk H2P.out)
  replace R1 := Lib.hid (box_keep R1.out hk G1P.out)
  replace R2 := Lib.hid (box_keep R2.out hk G2P.out)
  replace XI := Lib.hid (blk_keep XI.out hk HIP.out)
  replace HD := Lib.hid (own_keep HD.out hk CP.out)
  replace C := Lib.hid hc; replace BK := Lib.hid (BK.out.trans hk); replace BS := Lib.hid (Nat.le_trans BS.out hk.size); clear hc hk
  (try go_wp2_with fail)
  clear hHeld
  refine hK.out _ _ ?_ (fun hHeld => ?_)
  · (try dsimp only); exact ⟨X1.out.cell, X2.out.cell⟩
  clear hK K
  (try simp only [Act.put, List.setIfInBounds_toArray, List.set_cons_zero, List.set_cons_succ])
  refine wpAnyH_take (i := 10) (oi := { dst := some 2, op := Op.assign (Operand.tmp 21), type := 24, pos := "l09_key.go:125", after := #[{ on := 0, ground := Ground.data }, { on := 9, ground := Ground.chain }, { on := 0, ground := Ground.phase }, { on := 1, ground := Ground.textOnly Departure.lateStores }, { on := 2, ground := Ground.textOnly Departure.lateStores }, { on := 3, ground := Ground.textOnly Departure.lateStores }, { on := 4, ground := Ground.textOnly Departure.lateStores }, { on := 5, ground := Ground.textOnly Departure.lateStoresUnsure }, { on := 6, ground := Ground.textOnly Departure.lateStoresUnsure }, { on := 7, ground := Ground.textOnly Departure.lateStores }, { on := 8, ground := Ground.textOnly Departure.lateStores }, { on := 9, ground := Ground.textOnly Departure.lateStoresUnsure }], guard := none }) (v := ?_) rfl (by kernel_rfl) (by kernel_rfl) (by kernel_rfl) (fun _ _ _ h => h) (Or.inl ⟨by rfl, ?_⟩) (by assumption) ?_
  rotate_left
  · intro w' hSw; (try dsimp only at hSw); first | (go_simp; done) | (go_simp; with_reducible rfl)
  (try simp only [Act.put, List.setIfInBounds_toArray, List.set_cons_zero, List.set_cons_succ])
  refine wpAnyH_ready (rs := [11]) (by kernel_rfl) (by simp) ?_
  refine AllReadyH.cons (o := { dst := none, op := Op.store 27 (Operand.tmp 3) (Operand.tmp 22), type := 0, pos := "l09_key.go:125", after := #[{ on := 1, ground := Ground.data }, { on := 10, ground := Ground.chain }, { on := 0, ground := Ground.phase }, { on := 1, ground := Ground.phase }, { on := 2, ground := Ground.textOnly Departure.lateStores }, { on := 3, ground := Ground.textOnly Departure.lateStores }, { on := 4, ground := Ground.textOnly Departure.lateStores }, { on := 5, ground := Ground.textOnly Departure.lateStoresUnsure }, { on := 6, ground := Ground.textOnly Departure.lateStoresUnsure }, { on := 7, ground := Ground.textOnly Departure.lateStores }, { on := 8, ground := Ground.textOnly Departure.lateStores }, { on := 9, ground := Ground.textOnly Departure.lateStoresUnsure }, { on := 10, ground := Ground.phase }], guard := none }) rfl (fun K hK => ?_) AllReadyH.nil
  have r0 := R1.out.cell; have t0 := R1.out.frozen
  go_simp
  clear hHeld
  refine hK.out _ _ ?_ (fun hHeld => ?_)
  · (try dsimp only); exact ⟨cell_set1 X1.out.cell D11.out, cell_set1 X2.out.cell D21.out⟩
  clear hK K
  (try simp only [Act.put, List.setIfInBounds_toArray, List.set_cons_zero, List.set_cons_succ])
  refine wpAnyH_ready (rs := [12]) (by kernel_rfl) (by simp) ?_
  refine AllReadyH.cons (o := { dst := none, op := Op.store 27 (Operand.tmp 4) (Operand.tmp 23), type := 0, pos := "l09_key.go:125", after := #[{ on := 2, ground := Ground.data }, { on := 11, ground := Ground.chain }, { on := 0, ground := Ground.phase }, { on := 1, ground := Ground.phase }, { on := 2, ground := Ground.phase }, { on := 3, ground := Ground.textOnly Departure.lateStores }, { on := 4, ground := Ground.textOnly Departure.lateStores }, { on := 5, ground := Ground.textOnly Departure.lateStoresUnsure }, { on := 6, ground := Ground.textOnly Departure.lateStoresUnsure }, { on := 7, ground := Ground.textOnly Departure.lateStores }, { on := 8, ground := Ground.textOnly Departure.lateStores }, { on := 9, ground := Ground.textOnly Departure.lateStoresUnsure }, { on := 10, ground := Ground.phase }, { on := 11, ground := Ground.phase }], guard := none }) rfl (fun K hK => ?_) AllReadyH.nil
  have r0 := cell_set1 (j := 0) (y := .slice xk nk ck) R2.out.cell DRR.out; have t0 := (World.frozen?_setCell wn15 ⟨r1, 0, none⟩ ⟨r2, 0, none⟩ (.slice xk nk ck)).trans R2.out.frozen
  go_simp
  clear hHeld
  refine hK.out _ _ ?_ (fun hHeld => ?_)
  · (try dsimp only); exact ⟨cell_set1 (cell_set1 X1.out.cell D11.out) D12.out, cell_set1 (cell_set1 X2.out.cell D21.out) D22.out⟩
  clear hK K
  (try simp only [Act.put, List.setIfInBounds_toArray, List.set_cons_zero, List.set_cons_succ])
  refine wpAnyH_take (i := 13) (oi := { dst := some 5, op := Op.assign (Operand.tmp 27), type := 22, pos := "l09_key.go:125", after := #[{ on := 6, ground := Ground.data }, { on := 12, ground := Ground.chain }, { on := 0, ground := Ground.phase }, { on := 1, ground := Ground.phase }, { on := 2, ground := Ground.phase }, { on := 3, ground := Ground.phase }, { on := 4, ground := Ground.phase }, { on := 5, ground := Ground.phase }, { on := 6, ground := Ground.phase }, { on := 7, ground := Ground.textOnly Departure.lateStores }, { on := 8, ground := Ground.textOnly Departure.lateStores }, { on := 9, ground := Ground.textOnly Departure.lateStoresUnsure }, { on := 10, ground := Ground.phase }, { on := 11, ground := Ground.phase }, { on := 12, ground := Ground.phase }], guard := none }) (v := ?_) rfl (by kernel_rfl) (by kernel_rfl) (by kernel_rfl) (fun _ _ _ h => h) (Or.inl ⟨by rfl, ?_⟩) (by assumption) ?_
  rotate_left
  · intro w' hSw; (try dsimp only at hSw); first | (go_simp; done) | (go_simp; with_reducible rfl)
  (try simp only [Act.put, List.setIfInBounds_toArray, List.set_cons_zero, List.set_cons_succ])
  refine wpAnyH_take (i := 14) (oi := { dst := some 6, op := Op.assign (Operand.tmp 30), type := 3, pos := "l09_key.go:125", after := #[{ on := 9, ground := Ground.data }, { on := 13, ground := Ground.chain }, { on := 0, ground := Ground.phase }, { on := 1, ground := Ground.phase }, { on := 2, ground := Ground.phase }, { on := 3, ground := Ground.phase }, { on := 4, ground := Ground.phase }, { on := 5, ground := Ground.phase }, { on := 6, ground := Ground.phase }, { on := 7, ground := Ground.phase }, { on := 8, ground := Ground.phase }, { on := 9, ground := Ground.phase }, { on := 10, ground := Ground.phase }, { on := 11, ground := Ground.phase }, { on := 12, ground := Ground.phase }, { on := 13, ground := Ground.phase }], guard := none }) (v := ?_) rfl (by kernel_rfl) (by kernel_rfl) (by kernel_rfl) (fun _ _ _ h => h) (Or.inl ⟨by rfl, ?_⟩) (by assumption) ?_
  rotate_left
  · intro w' hSw; (try dsimp only at hSw); first | (go_simp; done) | (go_simp; with_reducible rfl)
  (try simp only [Act.put, List.setIfInBounds_toArray, List.set_cons_zero, List.set_cons_succ])
  refine wpAnyH_done (by kernel_rfl) ?_ _
  exact NoPanic.normal (HQ.out _ _ _ _ _ _ _ _ _ _ _ _ _ _ _ _ HL.out HK.out HN.out R1.out R2.out HD.out HBY.out (by omega) C.out BK.out)

set_option maxHeartbeats 8000000 in
theorem dDrawSignWithKey (w : World) (v : Value) (l : List UInt8) (hb : Frame.Bytes w v l) :
    Calls Tryz.prog 5 #[v] w (QKS w) := by
  have ha : Below w.heap.size w (w.alloc (.cells #[.slice none 0 0] 27)) := (Below.refl _ _).alloc (Nat.le_refl _) _
  have hal : Below w.heap.size w ((w.alloc (.cells #[.slice none 0 0] 27)).alloc (.cells #[.slice none 0 0] 27)) := ha.alloc (by simp) _
  have HAL := Lib.hid hal
  have HR0 := Lib.hid ((Box.new w (.slice none 0 0) 27).on ((Below.refl _ _).alloc (Nat.le_refl _) (.cells #[.slice none 0 0] 27)))
  have HQ0 := Lib.hid (Box.new' (w := w.alloc (.cells #[.slice none 0 0] 27)) (n := w.heap.size + 1) (.slice none 0 0) 27 (by simp))
  have HN := Lib.hid (new ((w.alloc (.cells #[.slice none 0 0] 27)).alloc (.cells #[.slice none 0 0] 27)) v l (hb.on hal)); clear hb ha hal
  go_enter Tryz.func5, Tryz.ntmps5
  go_wp2_with fail
  refine HN.out.mono ?_
  rintro e w1 ⟨rfl, hc⟩
  have hpz := hc.lt
  simp only [World.size_alloc] at hc hpz
  have HR1 := Lib.hid (HR0.out.on hc.below); have HQ1 := Lib.hid (HQ0.out.on hc.below)
  have HD := Lib.hid (l9Any _ _ v l w1 hc); clear hc
  go_wp2_with fail
  refine HD.out.mono ?_
  rintro e w2 ⟨U, rfl, ⟨L, ho, h2L, hL6, hs⟩, hc2, hk2⟩
  obtain ⟨xl, nl, cl, rfl, -, -, ho⟩ := ho.shapeN
  have hkz := hk2.size
  have HL2 := Lib.hid (ho.mono (show w.heap.size + 1 + 1 + 1 ≤ w1.heap.size by omega))
  have HR2 := Lib.hid (box_keep HR1.out hk2 (by omega)); have HQ2 := Lib.hid (box_keep HQ1.out hk2 (by omega))
  have HS := Lib.hid hs
  have hp2 : w.heap.size + 1 + 1 < w.heap.size + 1 + 1 + 1 := by omega
  have hr2 : w.heap.size ≠ w.heap.size + 1 + 1 := by omega
  have hq2 : w.heap.size + 1 ≠ w.heap.size + 1 + 1 := by omega
  have HT := Lib.hid (strLit2 _ _ v l w2 hc2 [{ data := #[47, 107, 101, 121, 47, 97] }, { data := #[47, 107, 101, 121, 47, 98] }, { data := #[47, 122, 122] }] _ rfl 3 rfl (by decide) (by decide) 20 (by decide))
  clear ho hc2 hk2 HD hs HR1 HQ1
  go_wp2_with fail
  refine HT.out.mono ?_
  rintro e w3 ⟨y, rfl, ⟨t, rfl, ht⟩, hc3, hk3⟩
  have hz3 := hk3.size
  have HL3 := Lib.hid (HL2.out.keep hk3 hp2); have HR3 := Lib.hid (box_keep HR2.out hk3 hr2); have HQ3 := Lib.hid (box_keep HQ2.out hk3 hq2)
  have HF := Lib.hid (Row.l4OfB t w3 (by omega)); have HC3 := Lib.hid hc3
  clear hc3 hk3 HT HL2 HR2 HQ2
  go_wp2_with fail
  refine HF.out.mono ?_
  rintro e w4 ⟨u4, rfl, hu4, hb4⟩
  obtain ⟨x4, n4, c4, rfl, -, hu4⟩ := hu4.shapeN
  have hz4 := hb4.size
  have hal := (Below.refl w4.heap.size w4).alloc (Nat.le_refl _) (.cells #[.slice x4 n4 c4] 27)
  have HL4 := Lib.hid ((HL3.out.on hb4).on hal); have HR4 := Lib.hid ((HR3.out.on hb4).on hal); have HQ4 := Lib.hid ((HQ3.out.on hb4).on hal)
  have HU4 := Lib.hid ((hu4.mono (show w.heap.size + 1 + 1 + 1 ≤ w3.heap.size by omega)).on hal)
  have HC4 := Lib.hid ((HC3.out.on hb4).on hal)
  have HX4 := Lib.hid (Box.new w4 (.slice x4 n4 c4) 27)
  have hg4 : w.heap.size + 1 + 1 + 1 ≤ w4.heap.size := by omega
  clear hu4 hb4 hal HF HL3 HR3 HQ3 HC3
  go_upto_region 4 with fail
  generalize w4.alloc (.cells #[.slice x4 n4 c4] 27) = V4 at *
  generalize w4.heap.size = g4 at *
  have HA := Lib.hid (l4Any _ _ v l V4 HC4.out)
  have hV4 := HX4.out.lt
  go_wp2_with fail
  refine HA.out.mono ?_
  rintro e w5 ⟨y, rfl, ⟨u, m, rfl, hou, hm⟩, hc5, hk5⟩
  obtain ⟨x5, n5, c5, rfl, -, -, hou⟩ := hou.shapeN
  have hz5 := hk5.size
  have hal := (Below.refl w5.heap.size w5).alloc (Nat.le_refl _) (.cells #[.slice x5 n5 c5] 27)
  have HL5 := Lib.hid ((HL4.out.keep hk5 hp2).on hal); have HR5 := Lib.hid ((box_keep HR4.out hk5 hr2).on hal); have HQ5 := Lib.hid ((box_keep HQ4.out hk5 hq2).on hal)
  have HK5 := Lib.hid ((hb_keep HU4.out hk5 hp2).on hal)
  have HN5 := Lib.hid (((HB.of hou).mono (show w.heap.size + 1 + 1 + 1 ≤ V4.heap.size by omega)).on hal)
  have HX5 := Lib.hid ((box_keep HX4.out hk5 (show g4 ≠ w.heap.size + 1 + 1 by omega)).on hal)
  have HY5 := Lib.hid (Box.new w5 (.slice x5 n5 c5) 27)
  have HC5 := Lib.hid (hc5.on hal)
  have hg5 : w.heap.size + 1 + 1 + 1 ≤ w5.heap.size := by omega
  clear hou hc5 hk5 hal HA HL4 HR4 HQ4 HU4 HX4 HC4
  go_upto_region 5 with fail
  generalize w5.alloc (.cells #[.slice x5 n5 c5] 27) = V5 at *
  generalize w5.heap.size = g5 at *
  refine dsw5 HC5 HL5 (Lib.hid hp2) HK5 HN5 HX5 HY5 HR5 HQ5 (Lib.hid (by omega)) (Lib.hid (by omega)) (Lib.hid hr2) (Lib.hid hq2) (Lib.hid (by omega)) (Lib.hid (by omega)) (Lib.hid (by omega)) (Lib.hid (by omega)) (Lib.hid (by omega)) ?_
  intro u21 u22 u23 u24 u25 u26 u27 u28 u29 u30 xD nD cD lb a w6 hl6 hk6 hn6 hr6 hq6 hd6 hby hlb hc6 hkk
  have hr0 : w.heap.size < w.heap.size + 1 + 1 + 1 := by omega
  have Z1 := Lib.hid (show Box ((w6.setCell ⟨w.heap.size, 0, none⟩ (.slice x4 n4 c4)).setCell ⟨w.heap.size + 1, 0, none⟩ (.slice x5 n5 c5)) w.heap.size (.slice x4 n4 c4) 27 from (hr6.set _).grown (Ret.grownBy_set _ ⟨w.heap.size + 1, 0, none⟩ (.slice x5 n5 c5)) (by simp))
  have hq7 : Box (w6.setCell ⟨w.heap.size, 0, none⟩ (.slice x4 n4 c4)) (w.heap.size + 1) (.slice none 0 0) 27 := hq6.grown (Ret.grownBy_set _ ⟨w.heap.size, 0, none⟩ (.slice x4 n4 c4)) (by simp)
  have Z2 := Lib.hid (show Box ((w6.setCell ⟨w.heap.size, 0, none⟩ (.slice x4 n4 c4)).setCell ⟨w.heap.size + 1, 0, none⟩ (.slice x5 n5 c5)) (w.heap.size + 1) (.slice x5 n5 c5) 27 from hq7.set _)
  have g1 : ∀ {W W' : World} {g : Nat} {x : Value} {z : List ByteArray} (_ : ∀ k, k ≠ g → W'.heap[k]? = W.heap[k]?) (_ : g < w.heap.size + 1 + 1 + 1), HB (w.heap.size + 1 + 1 + 1) W x z → HB (w.heap.size + 1 + 1 + 1) W' x z := fun h1 h2 h3 => h3.same fun q hq _ => h1 q (by omega)
  have st : ∀ (W : World) (g : Nat) (y : Value), ∀ k, k ≠ g → (W.setCell ⟨g, 0, none⟩ y).heap[k]? = W.heap[k]? := fun W g y k hk => Go.RowKit.Below.heap_setCell W ⟨g, 0, none⟩ y k hk
  have Z3 := Lib.hid (show kN.At ((w6.setCell ⟨w.heap.size, 0, none⟩ (.slice x4 n4 c4)).setCell ⟨w.heap.size + 1, 0, none⟩ (.slice x5 n5 c5)) (.agg #[.slice x4 n4 c4]) (Row.pN t) from hb_at (g1 (st _ _ _) (by omega) (g1 (st _ _ _) (by omega) hk6)))
  have Z4 := Lib.hid (show kN.At ((w6.setCell ⟨w.heap.size, 0, none⟩ (.slice x4 n4 c4)).setCell ⟨w.heap.size + 1, 0, none⟩ (.slice x5 n5 c5)) (.agg #[.slice x5 n5 c5]) m from hb_at (g1 (st _ _ _) (by omega) (g1 (st _ _ _) (by omega) hn6)))
  have hq8 : Blk (w6.setCell ⟨w.heap.size, 0, none⟩ (.slice x4 n4 c4)) (w.heap.size + 1) #[.slice none 0 0] 27 := hq7
  have Z5 := Lib.hid (show kK.At ((w6.setCell ⟨w.heap.size, 0, none⟩ (.slice x4 n4 c4)).setCell ⟨w.heap.size + 1, 0, none⟩ (.slice x5 n5 c5)) (.slice xl nl cl) (strip L) from ((hl6.setT (i := 0) (u := .slice x4 n4 c4) (show Blk w6 w.heap.size #[.slice none 0 0] 27 from hr6) (by decide) (by decide)).setT (i := 0) (u := .slice x5 n5 c5) hq8 (by decide) (by decide)).at)
  have Z6 := Lib.hid (show kB.At ((w6.setCell ⟨w.heap.size, 0, none⟩ (.slice x4 n4 c4)).setCell ⟨w.heap.size + 1, 0, none⟩ (.slice x5 n5 c5)) (.slice xD nD cD) lb from kB_of (Sl.Own.holds (own_setT (i := 0) (u := .slice x5 n5 c5) (own_setT (i := 0) (u := .slice x4 n4 c4) hd6 (show Blk w6 w.heap.size #[.slice none 0 0] 27 from hr6) (by decide)) hq8 (by decide))))
  have Z7 := Lib.hid (((HAL.out.trans (hc6.below.mono HAL.out.size)).setCell (p := ⟨w.heap.size, 0, none⟩) (Nat.le_refl _) (.slice x4 n4 c4)).setCell (p := ⟨w.heap.size + 1, 0, none⟩) (Nat.le_succ _) (.slice x5 n5 c5))
  have HBY := Lib.hid hby
  clear hl6 hk6 hn6 hr6 hq6 hd6 hc6 hkk hq7 hq8 g1 st hby
  go_wp2_with fail
  refine bodyPost_ret (Ret.results_tcctt rfl _ _ w.heap.size (w.heap.size + 1) [_] [_] rfl rfl Row.aggN (Ret.one Z1.out.cell) Row.aggN (Ret.one Z2.out.cell)) rfl ?_
  exact ⟨_, _, _, _, a, _, _, _, _, rfl, Z5.out, by rw [strip_length]; exact hL6, HS.out, Z3.out, bulk_pN t, Z4.out, hm, Z6.out, HBY.out, hlb, Z7.out⟩
end Go.Proofs.YtnblopilgfdjkaaGreat.Draw
