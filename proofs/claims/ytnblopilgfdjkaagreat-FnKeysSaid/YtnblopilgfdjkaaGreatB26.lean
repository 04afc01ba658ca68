/- Contracts and mathematics, joined: DrawR4. No conditions but those that each states. -/
import Derived.Test.YtnblopilgfdjkaaGreatB24
/- The model's draws of a list of keys and a packet. What was in memory stays as it was. -/
namespace Go.Proofs.YtnblopilgfdjkaaGreat.Draw
open Go.ChangeShapes Go.WideShapes Go.ChangeAt Go.RowKit Go.Instr
open Go.Proofs.YtnblopilgfdjkaaGreat.Row (bulk bulk_append bulk_one bulk_nil bulk_cons OwnK HB Dt dc aggD bulkD advD WfD kD kB kN kD_of kB_of kN_of)
open Go.Proofs.YtnblopilgfdjkaaGreat.Row.Ring (Ent encE szE kindE strip strip_append strip_length TabH TabO TabOwn TabHolds addK smT kK.At k1.At)
open Go.Proofs.YtnblopilgfdjkaaGreat.Ret (NC Blk Box)
set_option linter.unusedVariables false
set_option maxRecDepth 100000


set_option maxRecDepth 100000 in
set_option maxHeartbeats 4000000 in
theorem dpr5 {Q : Exit → Act → World → Prop} {v0 v1 v2 v3 v7 v8 v9 v10 v11 v12 v13 v14 v15 v16 v17 v18 v19 v20 v21 v22 v23 v24 v25 v26 : Value} {w : World} {w0 : World} {p : Nat} {v : Value} {l : List UInt8} (C0 : Hid (Cur w0 p v l w)) {n c B b g : Nat} {L : List Ent} {na ca nb cb nc cc : Nat} {xa xb xc : Option Addr} {f s : Int} {la lc : List ByteArray} {lb : List Int} (HL : Hid (RO B w (.slice (some ⟨b, 0, none⟩) n c) L)) (HPB : Hid (p < B)) (HLN : Hid (n = L.length ∧ 2 ≤ n)) (HD : Hid (DO3 B w (.slice xa na ca) (.slice xb nb cb) (.slice xc nc cc) (la, lb, lc, f, s))) (HBY : Hid (Sl.Byt lb)) (HBL : Hid (bulkD (la, lb, lc, f, s) ≤ 3000)) (XG : Hid (Blk w g (dc (.slice xa na ca) (.slice xb nb cb) (.slice xc nc cc) f s) 31)) (HGP : Hid (g ≠ p))
    (hQ : ∀ (u15 u16 u17 u18 u19 u20 u21 u22 u23 u24 : Value) (ya yb yc : Option Addr) (ma da mb db mc dc_ : Nat) (M : Int)  (wx : World), Blk wx g (dc (.slice xa na ca) (.slice xb nb cb) (.slice xc nc cc) f s) 31 → DO3 w.heap.size wx (.slice ya ma da) (.slice yb mb db) (.slice yc mc dc_) (la, lb, lc, f, M) → RO B wx (.slice (some ⟨b, 0, none⟩) n c) L → 0 ≤ M ∧ M < 2147483647 → Cur w0 p v l wx → Keep p w wx → Q .normal ⟨#[v0, v1, v2, v3, .pointer (some ⟨p, 0, none⟩), .slice (some ⟨b, 0, none⟩) n c, .pointer (some ⟨g, 0, none⟩), v7, v8, v9, v10, v11, v12, v13, v14, u15, u16, u17, u18, u19, u20, u21, u22, u23, u24, v25, v26], []⟩ ((((((wx).setCell ⟨g, 0, none⟩ (.slice ya ma da)).setCell ⟨g, 1, none⟩ (.slice yb mb db)).setCell ⟨g, 2, none⟩ (.slice yc mc dc_)).setCell ⟨g, 3, none⟩ (.int .i64 f)).setCell ⟨g, 4, none⟩ (.int .i64 M))) :
    (Code.region 5 #[{ dst := some 15, op := Op.move (Operand.tmp 5), type := 24, pos := "l09_key.go:133", after := #[], guard := none },
      { dst := some 16, op := Op.move (Operand.tmp 4), type := 55, pos := "l09_key.go:133", after := #[], guard := none },
      { dst := some 17, op := Op.move (Operand.tmp 5), type := 24, pos := "l09_key.go:133", after := #[], guard := none },
      { dst := some 18, op := Op.call { callee := Callee.builtin Builtin.len, args := #[Operand.tmp 17], argTypes := #[24] }, type := 3, pos := "l09_key.go:133", after := #[{ on := 2, ground := Ground.data }], guard := none },
      { dst := some 19, op := Op.call { callee := Callee.value (Operand.func 34), args := #[Operand.tmp 16, Operand.tmp 18], argTypes := #[55, 3] }, type := 3, pos := "l09_key.go:133", after := #[{ on := 1, ground := Ground.data }, { on := 3, ground := Ground.data }], guard := none },
      { dst := some 20, op := Op.indexAddr 24 (Operand.tmp 15) (Operand.tmp 19), type := 0, pos := "l09_key.go:133", after := #[{ on := 0, ground := Ground.data }, { on := 4, ground := Ground.data }], guard := none },
      { dst := some 21, op := Op.fieldAddr 37 (Operand.tmp 20) 1, type := 0, pos := "l09_key.go:133", after := #[{ on := 5, ground := Ground.data }], guard := none },
      { dst := some 22, op := Op.load 3 (Operand.tmp 21), type := 3, pos := "l09_key.go:133", after := #[{ on := 6, ground := Ground.data }], guard := none },
      { dst := some 23, op := Op.load 31 (Operand.tmp 6), type := 31, pos := "l09_key.go:133", after := #[], guard := none },
      { dst := some 24, op := Op.call { callee := Callee.value (Operand.func 37), args := #[Operand.tmp 22, Operand.tmp 23], argTypes := #[3, 31] }, type := 31, pos := "l09_key.go:133", after := #[{ on := 7, ground := Ground.data }, { on := 8, ground := Ground.data }, { on := 4, ground := Ground.chain }], guard := none },
      { dst := none, op := Op.store 31 (Operand.tmp 6) (Operand.tmp 24), type := 0, pos := "l09_key.go:133", after := #[{ on := 9, ground := Ground.data }, { on := 9, ground := Ground.chain }, { on := 0, ground := Ground.phase }, { on := 1, ground := Ground.phase }, { on := 2, ground := Ground.phase }, { on := 3, ground := Ground.phase }, { on := 4, ground := Ground.phase }, { on := 5, ground := Ground.phase }, { on := 6, ground := Ground.phase }, { on := 7, ground := Ground.phase }, { on := 8, ground := Ground.phase }, { on := 9, ground := Ground.phase }], guard := none }] true).wp Tryz.prog Q ⟨#[v0, v1, v2, v3, .pointer (some ⟨p, 0, none⟩), .slice (some ⟨b, 0, none⟩) n c, .pointer (some ⟨g, 0, none⟩), v7, v8, v9, v10, v11, v12, v13, v14, v15, v16, v17, v18, v19, v20, v21, v22, v23, v24, v25, v26], []⟩ w := by
  have HQ := Lib.hid hQ; clear hQ
  have hb : Below w.heap.size w w.drew := (Below.refl _ _).drew
  replace HL := Lib.hid (HL.out.on hb)
  replace HD := Lib.hid (HD.out.on hb)
  replace XG := Lib.hid (XG.out.on hb)
  have C := Lib.hid (C0.out.on hb)
  have BK := Lib.hid (Keep.of_below (p := p) hb)
  have BS := Lib.hid (show w.heap.size ≤ w.drew.heap.size from hb.size)
  have CP := Lib.hid C0.out.lt
  clear hb
  refine wp_region_noPanic ?_
  refine wp_region_held_drew (S := (fun w' => True)) (by kernel_rfl) ?_ (fun hHeld => ?_)
  · trivial
  generalize w.drew = wd at *
  refine wpAnyH_take (i := 0) (oi := { dst := some 15, op := Op.move (Operand.tmp 5), type := 24, pos := "l09_key.go:133", after := #[], guard := none }) (v := ?_) rfl (by kernel_rfl) (by kernel_rfl) (by kernel_rfl) (fun _ _ _ h => h) (Or.inl ⟨by rfl, ?_⟩) (by assumption) ?_
  rotate_left
  · intro w' hSw; (try dsimp only at hSw); first | (go_simp; done) | (go_simp; with_reducible rfl)
  (try simp only [Act.put, List.setIfInBounds_toArray, List.set_cons_zero, List.set_cons_succ])
  refine wpAnyH_take (i := 1) (oi := { dst := some 16, op := Op.move (Operand.tmp 4), type := 55, pos := "l09_key.go:133", after := #[], guard := none }) (v := ?_) rfl (by kernel_rfl) (by kernel_rfl) (by kernel_rfl) (fun _ _ _ h => h) (Or.inl ⟨by rfl, ?_⟩) (by assumption) ?_
  rotate_left
  · intro w' hSw; (try dsimp only at hSw); first | (go_simp; done) | (go_simp; with_reducible rfl)
  (try simp only [Act.put, List.setIfInBounds_toArray, List.set_cons_zero, List.set_cons_succ])
  refine wpAnyH_take (i := 2) (oi := { dst := some 17, op := Op.move (Operand.tmp 5), type := 24, pos := "l09_key.go:133", after := #[], guard := none }) (v := ?_) rfl (by kernel_rfl) (by kernel_rfl) (by kernel_rfl) (fun _ _ _ h => h) (Or.inl ⟨by rfl, ?_⟩) (by assumption) ?_
  rotate_left
  · intro w' hSw; (try dsimp only at hSw); first | (go_simp; done) | (go_simp; with_reducible rfl)
  (try simp only [Act.put, List.setIfInBounds_toArray, List.set_cons_zero, List.set_cons_succ])
  refine wpAnyH_take (i := 3) (oi := { dst := some 18, op := Op.call { callee := Callee.builtin Builtin.len, args := #[Operand.tmp 17], argTypes := #[24] }, type := 3, pos := "l09_key.go:133", after := #[{ on := 2, ground := Ground.data }], guard := none }) (v := ?_) rfl (by kernel_rfl) (by kernel_rfl) (by kernel_rfl) (fun _ _ _ h => h) (Or.inl ⟨by rfl, ?_⟩) (by assumption) ?_
  rotate_left
  · intro w' hSw; (try dsimp only at hSw); first | (go_simp; done) | (go_simp; with_reducible rfl)
  (try simp only [Act.put, List.setIfInBounds_toArray, List.set_cons_zero, List.set_cons_succ])
  refine wpAnyH_ready (rs := [4, 8]) (by kernel_rfl) (by simp) ?_
  refine AllReadyH.cons (o := { dst := some 19, op := Op.call { callee := Callee.value (Operand.func 34), args := #[Operand.tmp 16, Operand.tmp 18], argTypes := #[55, 3] }, type := 3, pos := "l09_key.go:133", after := #[{ on := 1, ground := Ground.data }, { on := 3, ground := Ground.data }], guard := none }) rfl (fun K hK => ?_) ?_
  ·
    go_simp
    refine (below w0 p v l wd (n : Int) C.out).mono ?_
    rintro e wn1 ⟨y, rfl, ⟨r, rfl, hr, _⟩, hc, hk⟩
    have hr := hr (by have h5 := HLN.out.2; omega)
    obtain ⟨r, rfl⟩ := Int.eq_ofNat_of_zero_le hr.1
    have hrn : (r : Int) < (n : Int) := hr.2
    have hr0 : (0 : Int) ≤ (r : Int) := hr.1
    clear hr
    replace HL := Lib.hid (HL.out.keep hk HPB.out)
    replace HD := Lib.hid (HD.out.keep hk HPB.out)
    replace XG := Lib.hid (blk_keep XG.out hk HGP.out)
    replace C := Lib.hid hc; replace BK := Lib.hid (BK.out.trans hk); replace BS := Lib.hid (Nat.le_trans BS.out hk.size); clear hc hk
    (try go_wp2_with fail)
    clear hHeld
    refine hK.out _ _ ?_ (fun hHeld => ?_)
    · trivial
    clear hK K
    (try simp only [Act.put, List.setIfInBounds_toArray, List.set_cons_zero, List.set_cons_succ])
    refine wpAnyH_take (i := 5) (oi := { dst := some 20, op := Op.indexAddr 24 (Operand.tmp 15) (Operand.tmp 19), type := 0, pos := "l09_key.go:133", after := #[{ on := 0, ground := Ground.data }, { on := 4, ground := Ground.data }], guard := none }) (v := ?_) rfl (by kernel_rfl) (by kernel_rfl) (by kernel_rfl) (fun _ _ _ h => h) (Or.inl ⟨by rfl, ?_⟩) (by assumption) ?_
    rotate_left
    · intro w' hSw; (try dsimp only at hSw); first | (go_simp; done) | (go_simp; with_reducible rfl)
    (try simp only [Act.put, List.setIfInBounds_toArray, List.set_cons_zero, List.set_cons_succ])
    refine wpAnyH_take (i := 6) (oi := { dst := some 21, op := Op.fieldAddr 37 (Operand.tmp 20) 1, type := 0, pos := "l09_key.go:133", after := #[{ on := 5, ground := Ground.data }], guard := none }) (v := ?_) rfl (by kernel_rfl) (by kernel_rfl) (by kernel_rfl) (fun _ _ _ h => h) (Or.inl ⟨by rfl, ?_⟩) (by assumption) ?_
    rotate_left
    · intro w' hSw; (try dsimp only at hSw); first | (go_simp; done) | (go_simp; with_reducible rfl)
    (try simp only [Act.put, List.setIfInBounds_toArray, List.set_cons_zero, List.set_cons_succ])
    refine wpAnyH_ready (rs := [7, 8]) (by kernel_rfl) (by simp) ?_
    refine AllReadyH.cons (o := { dst := some 22, op := Op.load 3 (Operand.tmp 21), type := 3, pos := "l09_key.go:133", after := #[{ on := 6, ground := Ground.data }], guard := none }) rfl (fun K hK => ?_) ?_
    ·
      obtain ⟨bb, oo, hbb, -, q1, -⟩ := HL.out.tab.at (k := r) (by have h5 := HLN.out.1; omega)
      cases hbb
      simp only [Nat.zero_add] at q1
      go_simp
      clear hHeld
      refine hK.out _ _ ?_ (fun hHeld => ?_)
      · trivial
      clear hK K
      (try simp only [Act.put, List.setIfInBounds_toArray, List.set_cons_zero, List.set_cons_succ])
      refine wpAnyH_ready (rs := [8]) (by kernel_rfl) (by simp) ?_
      refine AllReadyH.cons (o := { dst := some 23, op := Op.load 31 (Operand.tmp 6), type := 31, pos := "l09_key.go:133", after := #[], guard := none }) rfl (fun K hK => ?_) AllReadyH.nil
      obtain ⟨k0, k1, k2, k3, k4⟩ := keepC5 XG.out
      go_simp
      clear hHeld
      refine hK.out _ _ ?_ (fun hHeld => ?_)
      · trivial
      clear hK K
      (try simp only [Act.put, List.setIfInBounds_toArray, List.set_cons_zero, List.set_cons_succ])
      refine wpAnyH_ready (rs := [9]) (by kernel_rfl) (by simp) ?_
      refine AllReadyH.cons (o := { dst := some 24, op := Op.call { callee := Callee.value (Operand.func 37), args := #[Operand.tmp 22, Operand.tmp 23], argTypes := #[3, 31] }, type := 31, pos := "l09_key.go:133", after := #[{ on := 7, ground := Ground.data }, { on := 8, ground := Ground.data }, { on := 4, ground := Ground.chain }], guard := none }) rfl (fun K hK => ?_) AllReadyH.nil
      go_simp
      refine (signV _ _ _ _ _ _ _ _ _ (la, lb, lc, f, s) (Row.nth L r).val _ HD.out.hold HBY.out (Nat.le_trans HBL.out (by decide))).mono ?_
      rintro e wn4 ⟨ya, ma, da, yb, mb, db, yc, mc, dc_, M, rfl, ho5, hM, hb⟩
      have hMI := Seal.mac_in (Row.nth L r).val (Row.portD (la, lb, lc, f, s))
      rw [← hM] at hMI
      have HMI := Lib.hid hMI
      have HO5 := Lib.hid (show DO3 w.heap.size wn4 (.slice ya ma da) (.slice yb mb db) (.slice yc mc dc_) (la, lb, lc, f, M) from DO3.mono ho5 BS.out)
      clear hMI ho5 hM
      replace HL := Lib.hid (HL.out.on hb)
      replace HD := Lib.hid (HD.out.on hb)
      replace XG := Lib.hid (XG.out.on hb)
      replace C := Lib.hid (C.out.on hb); replace BK := Lib.hid (BK.out.trans (Keep.of_below hb)); replace BS := Lib.hid (Nat.le_trans BS.out hb.size); clear hb
      (try go_wp2_with fail)
      clear hHeld
      refine hK.out _ _ ?_ (fun hHeld => ?_)
      · trivial
      clear hK K
      (try simp only [Act.put, List.setIfInBounds_toArray, List.set_cons_zero, List.set_cons_succ])
      refine wpAnyH_ready (rs := [10]) (by kernel_rfl) (by simp) ?_
      refine AllReadyH.cons (o := { dst := none, op := Op.store 31 (Operand.tmp 6) (Operand.tmp 24), type := 0, pos := "l09_key.go:133", after := #[{ on := 9, ground := Ground.data }, { on := 9, ground := Ground.chain }, { on := 0, ground := Ground.phase }, { on := 1, ground := Ground.phase }, { on := 2, ground := Ground.phase }, { on := 3, ground := Ground.phase }, { on := 4, ground := Ground.phase }, { on := 5, ground := Ground.phase }, { on := 6, ground := Ground.phase }, { on := 7, ground := Ground.phase }, { on := 8, ground := Ground.phase }, { on := 9, ground := Ground.phase }], guard := none }) rfl (fun K hK => ?_) AllReadyH.nil
      obtain ⟨k0, k1, k2, k3, k4⟩ := keepC5 XG.out
      have t0 := XG.out.frozen 0; have t1 := XG.out.frozen 1; have t2 := XG.out.frozen 2; have t3 := XG.out.frozen 3; have t4 := XG.out.frozen 4
      go_simp
      clear hHeld
      refine hK.out _ _ ?_ (fun hHeld => ?_)
      · trivial
      clear hK K
      (try simp only [Act.put, List.setIfInBounds_toArray, List.set_cons_zero, List.set_cons_succ])
      refine wpAnyH_done (by kernel_rfl) ?_ _
      exact NoPanic.normal (HQ.out _ _ _ _ _ _ _ _ _ _ ya yb yc ma da mb db mc dc_ M _ XG.out HO5.out HL.out HMI.out C.out BK.out)
    refine AllReadyH.cons (o := { dst := some 23, op := Op.load 31 (Operand.tmp 6), type := 31, pos := "l09_key.go:133", after := #[], guard := none }) rfl (fun K hK => ?_) AllReadyH.nil
    obtain ⟨k0, k1, k2, k3, k4⟩ := keepC5 XG.out
    go_simp
    clear hHeld
    refine hK.out _ _ ?_ (fun hHeld => ?_)
    · trivial
    clear hK K
    (try simp only [Act.put, List.setIfInBounds_toArray, List.set_cons_zero, List.set_cons_succ])
    refine wpAnyH_ready (rs := [7]) (by kernel_rfl) (by simp) ?_
    refine AllReadyH.cons (o := { dst := some 22, op := Op.load 3 (Operand.tmp 21), type := 3, pos := "l09_key.go:133", after := #[{ on := 6, ground := Ground.data }], guard := none }) rfl (fun K hK => ?_) AllReadyH.nil
    obtain ⟨bb, oo, hbb, -, q1, -⟩ := HL.out.tab.at (k := r) (by have h5 := HLN.out.1; omega)
    cases hbb
    simp only [Nat.zero_add] at q1
    go_simp
    clear hHeld
    refine hK.out _ _ ?_ (fun hHeld => ?_)
    · trivial
    clear hK K
    (try simp only [Act.put, List.setIfInBounds_toArray, List.set_cons_zero, List.set_cons_succ])
    refine wpAnyH_ready (rs := [9]) (by kernel_rfl) (by simp) ?_
    refine AllReadyH.cons (o := { dst := some 24, op := Op.call { callee := Callee.value (Operand.func 37), args := #[Operand.tmp 22, Operand.tmp 23], argTypes := #[3, 31] }, type := 31, pos := "l09_key.go:133", after := #[{ on := 7, ground := Ground.data }, { on := 8, ground := Ground.data }, { on := 4, ground := Ground.chain }], guard := none }) rfl (fun K hK => ?_) AllReadyH.nil
    go_simp
    refine (signV _ _ _ _ _ _ _ _ _ (la, lb, lc, f, s) (Row.nth L r).val _ HD.out.hold HBY.out (Nat.le_trans HBL.out (by decide))).mono ?_
    rintro e wn8 ⟨ya, ma, da, yb, mb, db, yc, mc, dc_, M, rfl, ho5, hM, hb⟩
    have hMI := Seal.mac_in (Row.nth L r).val (Row.portD (la, lb, lc, f, s))
    rw [← hM] at hMI
    have HMI := Lib.hid hMI
    have HO5 := Lib.hid (show DO3 w.heap.size wn8 (.slice ya ma da) (.slice yb mb db) (.slice yc mc dc_) (la, lb, lc, f, M) from DO3.mono ho5 BS.out)
    clear hMI ho5 hM
    replace HL := Lib.hid (HL.out.on hb)
    replace HD := Lib.hid (HD.out.on hb)
    replace XG := Lib.hid (XG.out.on hb)
    replace C := Lib.hid (C.out.on hb); replace BK := Lib.hid (BK.out.trans (Keep.of_below hb)); replace BS := Lib.hid (Nat.le_trans BS.out hb.size); clear hb
    (try go_wp2_with fail)
    clear hHeld
    refine hK.out _ _ ?_ (fun hHeld => ?_)
    · trivial
    clear hK K
    (try simp only [Act.put, List.setIfInBounds_toArray, List.set_cons_zero, List.set_cons_succ])
    refine wpAnyH_ready (rs := [10]) (by kernel_rfl) (by simp) ?_
    refine AllReadyH.cons (o := { dst := none, op := Op.store 31 (Operand.tmp 6) (Operand.tmp 24), type := 0, pos := "l09_key.go:133", after := #[{ on := 9, ground := Ground.data }, { on := 9, ground := Ground.chain }, { on := 0, ground := Ground.phase }, { on := 1, ground := Ground.phase }, { on := 2, ground := Ground.phase }, { on := 3, ground := Ground.phase }, { on := 4, ground := Ground.phase }, { on := 5, ground := Ground.phase }, { on := 6, ground := Ground.phase }, { on := 7, ground := Ground.phase }, { on := 8, ground := Ground.phase }, { on := 9, ground := Ground.phase }], guard := none }) rfl (fun K hK => ?_) AllReadyH.nil
    obtain ⟨k0, k1, k2, k3, k4⟩ := keepC5 XG.out
    have t0 := XG.out.frozen 0; have t1 := XG.out.frozen 1; have t2 := XG.out.frozen 2; have t3 := XG.out.frozen 3; have t4 := XG.out.frozen 4
    go_simp
    clear hHeld
    refine hK.out _ _ ?_ (fun hHeld => ?_)
    · trivial
    clear hK K
    (try simp only [Act.put, List.setIfInBounds_toArray, List.set_cons_zero, List.set_cons_succ])
    refine wpAnyH_done (by kernel_rfl) ?_ _
    exact NoPanic.normal (HQ.out _ _ _ _ _ _ _ _ _ _ ya yb yc ma da mb db mc dc_ M _ XG.out HO5.out HL.out HMI.out C.out BK.out)
  refine AllReadyH.cons (o := { dst := some 23, op := Op.load 31 (Operand.tmp 6), type := 31, pos := "l09_key.go:133", after := #[], guard := none }) rfl (fun K hK => ?_) AllReadyH.nil
  obtain ⟨k0, k1, k2, k3, k4⟩ := keepC5 XG.out
  go_simp
  clear hHeld
  refine hK.out _ _ ?_ (fun hHeld => ?_)
  · trivial
  clear hK K
  (try simp only [Act.put, List.setIfInBounds_toArray, List.set_cons_zero, List.set_cons_succ])
  refine wpAnyH_ready (rs := [4]) (by kernel_rfl) (by simp) ?_
  refine AllReadyH.cons (o := { dst := some 19, op := Op.call { callee := Callee.value (Operand.func 34), args := #[Operand.tmp 16, Operand.tmp 18], argTypes := #[55, 3] }, type := 3, pos := "l09_key.go:133", after := #[{ on := 1, ground := Ground.data }, { on := 3, ground := Ground.data }], guard := none }) rfl (fun K hK => ?_) AllReadyH.nil
  go_simp
  refine (below w0 p v l wd (n : Int) C.out).mono ?_
  rintro e wn11 ⟨y, rfl, ⟨r, rfl, hr, _⟩, hc, hk⟩
  have hr := hr (by have h5 := HLN.out.2; omega)
  obtain ⟨r, rfl⟩ := Int.eq_ofNat_of_zero_le hr.1
  have hrn : (r : Int) < (n : Int) := hr.2
  have hr0 : (0 : Int) ≤ (r : Int) := hr.1
  clear hr
  replace HL := Lib.hid (HL.out.keep hk HPB.out)
  replace HD := Lib.hid (HD.out.keep hk HPB.out)
  replace XG := Lib.hid (blk_keep XG.out hk HGP.out)
  replace C := Lib.hid hc; replace BK := Lib.hid (BK.out.trans hk); replace BS := Lib.hid (Nat.le_trans BS.out hk.size); clear hc hk
  (try go_wp2_with fail)
  clear hHeld
  refine hK.out _ _ ?_ (fun hHeld => ?_)
  · trivial
  clear hK K
  (try simp only [Act.put, List.setIfInBounds_toArray, List.set_cons_zero, List.set_cons_succ])
  refine wpAnyH_take (i := 5) (oi := { dst := some 20, op := Op.indexAddr 24 (Operand.tmp 15) (Operand.tmp 19), type := 0, pos := "l09_key.go:133", after := #[{ on := 0, ground := Ground.data }, { on := 4, ground := Ground.data }], guard := none }) (v := ?_) rfl (by kernel_rfl) (by kernel_rfl) (by kernel_rfl) (fun _ _ _ h => h) (Or.inl ⟨by rfl, ?_⟩) (by assumption) ?_
  rotate_left
  · intro w' hSw; (try dsimp only at hSw); first | (go_simp; done) | (go_simp; with_reducible rfl)
  (try simp only [Act.put, List.setIfInBounds_toArray, List.set_cons_zero, List.set_cons_succ])
  refine wpAnyH_take (i := 6) (oi := { dst := some 21, op := Op.fieldAddr 37 (Operand.tmp 20) 1, type := 0, pos := "l09_key.go:133", after := #[{ on := 5, ground := Ground.data }], guard := none }) (v := ?_) rfl (by kernel_rfl) (by kernel_rfl) (by kernel_rfl) (fun _ _ _ h => h) (Or.inl ⟨by rfl, ?_⟩) (by assumption) ?_
  rotate_left
  · intro w' hSw; (try dsimp only at hSw); first | (go_simp; done) | (go_simp; with_reducible rfl)
  (try simp only [Act.put, List.setIfInBounds_toArray, List.set_cons_zero, List.set_cons_succ])
  refine wpAnyH_ready (rs := [7]) (by kernel_rfl) (by simp) ?_
  refine AllReadyH.cons (o := { dst := some 22, op := Op.load 3 (Operand.tmp 21), type := 3, pos := "l09_key.go:133", after := #[{ on := 6, ground := Ground.data }], guard := none }) rfl (fun K hK => ?_) AllReadyH.nil
  obtain ⟨bb, oo, hbb, -, q1, -⟩ := HL.out.tab.at (k := r) (by have h5 := HLN.out.1; omega)
  cases hbb
  simp only [Nat.zero_add] at q1
  go_simp
  clear hHeld
  refine hK.out _ _ ?_ (fun hHeld => ?_)
  · trivial
  clear hK K
  (try simp only [Act.put, List.setIfInBounds_toArray, List.set_cons_zero, List.set_cons_succ])
  refine wpAnyH_ready (rs := [9]) (by kernel_rfl) (by simp) ?_
  refine AllReadyH.cons (o := { dst := some 24, op := Op.call { callee := Callee.value (Operand.func 37), args := #[Operand.tmp 22, Operand.tmp 23], argTypes := #[3, 31] }, type := 31, pos := "l09_key.go:133", after := #[{ on := 7, ground := Ground.data }, { on := 8, ground := Ground.data }, { on := 4, ground := Ground.chain }], guard := none }) rfl (fun K hK => ?_) AllReadyH.nil
  go_simp
  refine (signV _ _ _ _ _ _ _ _ _ (la, lb, lc, f, s) (Row.nth L r).val _ HD.out.hold HBY.out (Nat.le_trans HBL.out (by decide))).mono ?_
  rintro e wn13 ⟨ya, ma, da, yb, mb, db, yc, mc, dc_, M, rfl, ho5, hM, hb⟩
  have hMI := Seal.mac_in (Row.nth L r).val (Row.portD (la, lb, lc, f, s))
  rw [← hM] at hMI
  have HMI := Lib.hid hMI
  have HO5 := Lib.hid (show DO3 w.heap.size wn13 (.slice ya ma da) (.slice yb mb db) (.slice yc mc dc_) (la, lb, lc, f, M) from DO3.mono ho5 BS.out)
  clear hMI ho5 hM
  replace HL := Lib.hid (HL.out.on hb)
  replace HD := Lib.hid (HD.out.on hb)
  replace XG := Lib.hid (XG.out.on hb)
  replace C := Lib.hid (C.out.on hb); replace BK := Lib.hid (BK.out.trans (Keep.of_below hb)); replace BS := Lib.hid (Nat.le_trans BS.out hb.size); clear hb
  (try go_wp2_with fail)
  clear hHeld
  refine hK.out _ _ ?_ (fun hHeld => ?_)
  · trivial
  clear hK K
  (try simp only [Act.put, List.setIfInBounds_toArray, List.set_cons_zero, List.set_cons_succ])
  refine wpAnyH_ready (rs := [10]) (by kernel_rfl) (by simp) ?_
  refine AllReadyH.cons (o := { dst := none, op := Op.store 31 (Operand.tmp 6) (Operand.tmp 24), type := 0, pos := "l09_key.go:133", after := #[{ on := 9, ground := Ground.data }, { on := 9, ground := Ground.chain }, { on := 0, ground := Ground.phase }, { on := 1, ground := Ground.phase }, { on := 2, ground := Ground.phase }, { on := 3, ground := Ground.phase }, { on := 4, ground := Ground.phase }, { on := 5, ground := Ground.phase }, { on := 6, ground := Ground.phase }, { on := 7, ground := Ground.phase }, { on := 8, ground := Ground.phase }, { on := 9, ground := Ground.phase }], guard := none }) rfl (fun K hK => ?_) AllReadyH.nil
  obtain ⟨k0, k1, k2, k3, k4⟩ := keepC5 XG.out
  have t0 := XG.out.frozen 0; have t1 := XG.out.frozen 1; have t2 := XG.out.frozen 2; have t3 := XG.out.frozen 3; have t4 := XG.out.frozen 4
  go_simp
  clear hHeld
  refine hK.out _ _ ?_ (fun hHeld => ?_)
  · trivial
  clear hK K
  (try simp only [Act.put, List.setIfInBounds_toArray, List.set_cons_zero, List.set_cons_succ])
  refine wpAnyH_done (by kernel_rfl) ?_ _
  exact NoPanic.normal (HQ.out _ _ _ _ _ _ _ _ _ _ ya yb yc ma da mb db mc dc_ M _ XG.out HO5.out HL.out HMI.out C.out BK.out)

set_option maxRecDepth 100000 in
set_option maxHeartbeats 4000000 in
theorem dpr6 {Q : Exit → Act → World → Prop} {v0 v1 v2 v4 v7 v8 v9 v10 v11 v12 v13 v14 v15 v16 v17 v18 v19 v20 v21 v22 v23 v24 v25 v26 : Value} {w : World} {n c g r : Nat} {xl : Option Addr} {na ca nb cb nc cc : Nat} {xa xb xc : Option Addr} {f s : Int} (XG : Hid (Blk w g (dc (.slice xa na ca) (.slice xb nb cb) (.slice xc nc cc) f s) 31)) (XR : Hid (Blk w r (dc (.slice none 0 0) (.slice none 0 0) (.slice none 0 0) 0 0) 31)) 
    (hQ : ∀ (u25 u26 : Value)  (wx : World), Below w.heap.size w wx → Q .normal ⟨#[v0, v1, .slice xl n c, .pointer (some ⟨r, 0, none⟩), v4, .slice xl n c, .pointer (some ⟨g, 0, none⟩), v7, v8, v9, v10, v11, v12, v13, v14, v15, v16, v17, v18, v19, v20, v21, v22, v23, v24, u25, u26], []⟩ ((((((wx).setCell ⟨r, 0, none⟩ (.slice xa na ca)).setCell ⟨r, 1, none⟩ (.slice xb nb cb)).setCell ⟨r, 2, none⟩ (.slice xc nc cc)).setCell ⟨r, 3, none⟩ (.int .i64 f)).setCell ⟨r, 4, none⟩ (.int .i64 s))) :
    (Code.region 6 #[{ dst := some 25, op := Op.move (Operand.tmp 5), type := 24, pos := "l09_key.go:135", after := #[], guard := none },
      { dst := some 26, op := Op.load 31 (Operand.tmp 6), type := 31, pos := "l09_key.go:135", after := #[{ on := 2, ground := Ground.gcOnly Departure.lateStores }], guard := none },
      { dst := some 2, op := Op.assign (Operand.tmp 25), type := 24, pos := "l09_key.go:135", after := #[{ on := 0, ground := Ground.data }, { on := 0, ground := Ground.phase }, { on := 1, ground := Ground.textOnly Departure.lateStores }], guard := none },
      { dst := none, op := Op.store 31 (Operand.tmp 3) (Operand.tmp 26), type := 0, pos := "l09_key.go:135", after := #[{ on := 1, ground := Ground.data }, { on := 2, ground := Ground.chain }, { on := 0, ground := Ground.phase }, { on := 1, ground := Ground.phase }, { on := 2, ground := Ground.phase }], guard := none }] true).wp Tryz.prog Q ⟨#[v0, v1, v2, .pointer (some ⟨r, 0, none⟩), v4, .slice xl n c, .pointer (some ⟨g, 0, none⟩), v7, v8, v9, v10, v11, v12, v13, v14, v15, v16, v17, v18, v19, v20, v21, v22, v23, v24, v25, v26], []⟩ w := by
  have HQ := Lib.hid hQ; clear hQ
  have hdr : Below w.heap.size w w.drew := (Below.refl _ _).drew
  have BB := Lib.hid hdr
  refine wp_region_noPanic ?_
  refine wp_region_held_drew (S := (fun w' => True)) (by kernel_rfl) ?_ (fun hHeld => ?_)
  · trivial
  clear hdr
  generalize w.drew = wd at *
  refine wpAnyH_take (i := 0) (oi := { dst := some 25, op := Op.move (Operand.tmp 5), type := 24, pos := "l09_key.go:135", after := #[], guard := none }) (v := ?_) rfl (by kernel_rfl) (by kernel_rfl) (by kernel_rfl) (fun _ _ _ h => h) (Or.inl ⟨by rfl, ?_⟩) (by assumption) ?_
  rotate_left
  · intro w' hSw; (try dsimp only at hSw); first | (go_simp; done) | (go_simp; with_reducible rfl)
  (try simp only [Act.put, List.setIfInBounds_toArray, List.set_cons_zero, List.set_cons_succ])
  refine wpAnyH_take (i := 2) (oi := { dst := some 2, op := Op.assign (Operand.tmp 25), type := 24, pos := "l09_key.go:135", after := #[{ on := 0, ground := Ground.data }, { on := 0, ground := Ground.phase }, { on := 1, ground := Ground.textOnly Departure.lateStores }], guard := none }) (v := ?_) rfl (by kernel_rfl) (by kernel_rfl) (by kernel_rfl) (fun _ _ _ h => h) (Or.inl ⟨by rfl, ?_⟩) (by assumption) ?_
  rotate_left
  · intro w' hSw; (try dsimp only at hSw); first | (go_simp; done) | (go_simp; with_reducible rfl)
  (try simp only [Act.put, List.setIfInBounds_toArray, List.set_cons_zero, List.set_cons_succ])
  refine wpAnyH_ready (rs := [1]) (by kernel_rfl) (by simp) ?_
  refine AllReadyH.cons (o := { dst := some 26, op := Op.load 31 (Operand.tmp 6), type := 31, pos := "l09_key.go:135", after := #[{ on := 2, ground := Ground.gcOnly Departure.lateStores }], guard := none }) rfl (fun K hK => ?_) AllReadyH.nil
  obtain ⟨k0, k1, k2, k3, k4⟩ := keepC5 (XG.out.on BB.out)
  go_simp
  clear hHeld
  refine hK.out _ _ ?_ (fun hHeld => ?_)
  · trivial
  clear hK K
  (try simp only [Act.put, List.setIfInBounds_toArray, List.set_cons_zero, List.set_cons_succ])
  refine wpAnyH_ready (rs := [3]) (by kernel_rfl) (by simp) ?_
  refine AllReadyH.cons (o := { dst := none, op := Op.store 31 (Operand.tmp 3) (Operand.tmp 26), type := 0, pos := "l09_key.go:135", after := #[{ on := 1, ground := Ground.data }, { on := 2, ground := Ground.chain }, { on := 0, ground := Ground.phase }, { on := 1, ground := Ground.phase }, { on := 2, ground := Ground.phase }], guard := none }) rfl (fun K hK => ?_) AllReadyH.nil
  obtain ⟨k0, k1, k2, k3, k4⟩ := keepC5 (XR.out.on BB.out)
  have t0 := (XR.out.on BB.out).frozen 0; have t1 := (XR.out.on BB.out).frozen 1; have t2 := (XR.out.on BB.out).frozen 2; have t3 := (XR.out.on BB.out).frozen 3; have t4 := (XR.out.on BB.out).frozen 4
  go_simp
  clear hHeld
  refine hK.out _ _ ?_ (fun hHeld => ?_)
  · trivial
  clear hK K
  (try simp only [Act.put, List.setIfInBounds_toArray, List.set_cons_zero, List.set_cons_succ])
  refine wpAnyH_done (by kernel_rfl) ?_ _
  exact NoPanic.normal (HQ.out _ _  _  BB.out)

set_option maxHeartbeats 8000000 in
theorem l9Pair (w : World) (v : Value) (l : List UInt8) (hb : Frame.Bytes w v l) :
    Calls Tryz.prog 39 #[v] w (QPair w) := by
  have hal : Below w.heap.size w (w.alloc (.cells (dc (.slice none 0 0) (.slice none 0 0) (.slice none 0 0) 0 0) 31)) := (Below.refl _ _).alloc (Nat.le_refl _) _
  have HAL := Lib.hid hal
  have HR0 := Lib.hid (Blk.new w (dc (.slice none 0 0) (.slice none 0 0) (.slice none 0 0) 0 0) 31)
  have HN := Lib.hid (new (w.alloc (.cells (dc (.slice none 0 0) (.slice none 0 0) (.slice none 0 0) 0 0) 31)) v l (hb.on hal)); clear hb hal
  go_enter Tryz.func39, Tryz.ntmps39
  go_wp2_with fail
  refine HN.out.mono ?_
  rintro e w1 ⟨rfl, hc⟩
  have hpz := hc.lt
  simp only [World.size_alloc] at hc hpz
  have HR1 := Lib.hid (HR0.out.on hc.below)
  have HD := Lib.hid (l9Any _ _ v l w1 hc); clear hc
  go_wp2_with fail
  refine HD.out.mono ?_
  rintro e w2 ⟨U, rfl, ⟨L, ho, h2L, hL6, hs⟩, hc2, hk2⟩
  obtain ⟨xl, nl, cl, rfl, hnl, -, ho⟩ := ho.shapeN
  have hkz := hk2.size
  have HL2 := Lib.hid (ho.mono (show w.heap.size + 1 + 1 ≤ w1.heap.size by omega))
  have HR2 := Lib.hid (blk_keep HR1.out hk2 (by omega))
  have HS := Lib.hid hs
  have HNL := Lib.hid (show nl = L.length ∧ 2 ≤ nl from ⟨hnl, by omega⟩)
  have hp2 : w.heap.size + 1 < w.heap.size + 1 + 1 := by omega
  have hr2 : w.heap.size ≠ w.heap.size + 1 := by omega
  have HT := Lib.hid (l8Any _ _ v l w2 hc2)
  clear ho hc2 hk2 HD hs HR1 hnl
  go_wp2_with fail
  refine HT.out.mono ?_
  rintro e w3 ⟨V, rfl, ⟨xa, na, ca, xb, nb, cb, xc, nc, cc, y, rfl, ho3, hbl, hwf⟩, hc3, hk3⟩
  obtain ⟨la, lb, lc, f, s⟩ := y
  simp only
  have hz3 := hk3.size
  have hal : Below w3.heap.size w3 (w3.alloc (.cells (dc (.slice xa na ca) (.slice xb nb cb) (.slice xc nc cc) f s) 31)) := (Below.refl _ _).alloc (Nat.le_refl _) _
  have HO3 := Lib.hid ((ho3.mono (show w.heap.size + 1 + 1 ≤ w2.heap.size by omega)).on hal)
  have HL3 := Lib.hid ((HL2.out.keep hk3 hp2).on hal)
  have HR3 := Lib.hid ((blk_keep HR2.out hk3 hr2).on hal)
  have HG3 := Lib.hid (Blk.new w3 (dc (.slice xa na ca) (.slice xb nb cb) (.slice xc nc cc) f s) 31)
  have HC3 := Lib.hid (hc3.on hal)
  have HBL := Lib.hid (show bulkD (la, lb, lc, f, s) ≤ 3000 from hbl); have HWF := Lib.hid hwf
  have hgw0 : w.heap.size ≤ w3.heap.size := by omega
  have hgp : w3.heap.size ≠ w.heap.size + 1 := by omega
  have hg0 : w3.heap.size ≠ w.heap.size := by omega
  clear hal ho3 hc3 hk3 HT hbl hwf HL2 HR2
  go_upto_region 4 with fail
  generalize w3.alloc (.cells (dc (.slice xa na ca) (.slice xb nb cb) (.slice xc nc cc) f s) 31) = V at *
  generalize w3.heap.size = g at *
  have HD := Lib.hid (once _ _ v l V 2 HC3.out)
  go_wp2_with fail
  refine HD.out.mono ?_
  rintro e w4 ⟨y, rfl, ⟨bb, rfl⟩, hc4, hk4⟩
  have HO4 := Lib.hid (HO3.out.keep hk4 hp2); have HL4 := Lib.hid (HL3.out.keep hk4 hp2); have HR4 := Lib.hid (blk_keep HR3.out hk4 hr2); have HG4 := Lib.hid (blk_keep HG3.out hk4 hgp)
  have HC4 := Lib.hid hc4
  clear hc4 hk4 HD HO3 HL3 HR3 HG3 HC3
  cases bb with
  | false =>
    have HB4 := Lib.hid (HAL.out.trans (HC4.out.below.mono HAL.out.size))
    go_wp2_with fail
    refine dpr6 HG4 HR4 ?_
    intro u25 u26 wz hbz
    have hxr := HR4.out.on hbz
    have Z1 := Lib.hid (set5 (a := .slice xa na ca) (b := .slice xb nb cb) (c := .slice xc nc cc) (f := f) (s := s) hxr)
    have Z2 := Lib.hid (show RO w.heap.size ((((((wz).setCell ⟨w.heap.size, 0, none⟩ (.slice xa na ca)).setCell ⟨w.heap.size, 1, none⟩ (.slice xb nb cb)).setCell ⟨w.heap.size, 2, none⟩ (.slice xc nc cc)).setCell ⟨w.heap.size, 3, none⟩ (.int .i64 f)).setCell ⟨w.heap.size, 4, none⟩ (.int .i64 s)) (.slice xl nl cl) L from by
      have st : ∀ {W : World} {cs : Array Value} (i : Nat) (y : Value), Blk W w.heap.size cs 31 → RO (w.heap.size + 1 + 1) W (.slice xl nl cl) L → RO (w.heap.size + 1 + 1) (W.setCell ⟨w.heap.size, i, none⟩ y) (.slice xl nl cl) L := fun i y h1 h2 => h2.setT h1 (by decide) (by decide)
      exact (st 4 _ ((((hxr.set 0 _).set 1 _).set 2 _).set 3 _) (st 3 _ (((hxr.set 0 _).set 1 _).set 2 _) (st 2 _ ((hxr.set 0 _).set 1 _) (st 1 _ (hxr.set 0 _) (st 0 _ hxr (HL4.out.on hbz)))))).mono (by omega))
    have Z3 := Lib.hid ((HO4.out.on hbz).fiveT (a1 := .slice xa na ca) (b1 := .slice xb nb cb) (c1 := .slice xc nc cc) (f := f) (s := s) hxr)
    have Z4 := Lib.hid (below5 (a := .slice xa na ca) (b := .slice xb nb cb) (c := .slice xc nc cc) (f := f) (s := s) (HB4.out.trans (hbz.mono HB4.out.size)) (Nat.le_refl _))
    clear hxr hbz
    go_wp2_with fail
    refine bodyPost_ret (Ret.results_tcD rfl _ _ w.heap.size (dc (.slice xa na ca) (.slice xb nb cb) (.slice xc nc cc) f s).toList rfl aggD Z1.out.cells) rfl ?_
    exact ⟨L, la, lb, lc, f, s, _, _, _, _, _, _, _, _, _, _, _, _, rfl, Z2.out, hL6, HS.out, Z3.out.mono (by omega), HBL.out, HWF.out, Z4.out⟩
  | true =>
    obtain ⟨b, hxb⟩ : ∃ b, xl = some ⟨b, 0, none⟩ := by
      rcases HL4.out.1.2 with ⟨h5, _⟩ | ⟨g5, cap5, cur5, h5, _⟩
      · cases h5; have := HNL.out.2; omega
      · cases h5; exact ⟨_, rfl⟩
    subst hxb
    go_wp2_with fail
    refine dpr5 HC4 HL4 (Lib.hid hp2) HNL HO4 (Lib.hid (Sl.byt_of_wf HWF.out.2.1)) HBL HG4 (Lib.hid hgp) ?_
    intro u15 u16 u17 u18 u19 u20 u21 u22 u23 u24 ya yb yc ma da mb db mc dc_ M w5 hg5 ho5 hl5 hM hc5 hk5
    have HR5 := Lib.hid (blk_keep HR4.out hk5 hr2)
    have HC5 := Lib.hid hc5
    have HMI := Lib.hid hM
    have hsz : w.heap.size + 1 + 1 ≤ w4.heap.size := by have h1 := HC4.out.below.size; have h2 := HC4.out.lt; omega
    have HG6 := Lib.hid (show Blk ((((((w5).setCell ⟨g, 0, none⟩ (.slice ya ma da)).setCell ⟨g, 1, none⟩ (.slice yb mb db)).setCell ⟨g, 2, none⟩ (.slice yc mc dc_)).setCell ⟨g, 3, none⟩ (.int .i64 f)).setCell ⟨g, 4, none⟩ (.int .i64 M)) g (dc (.slice ya ma da) (.slice yb mb db) (.slice yc mc dc_) f M) 31 from set5 hg5)
    have HO6 := Lib.hid (show DO3 (w.heap.size + 1 + 1) ((((((w5).setCell ⟨g, 0, none⟩ (.slice ya ma da)).setCell ⟨g, 1, none⟩ (.slice yb mb db)).setCell ⟨g, 2, none⟩ (.slice yc mc dc_)).setCell ⟨g, 3, none⟩ (.int .i64 f)).setCell ⟨g, 4, none⟩ (.int .i64 M)) (.slice ya ma da) (.slice yb mb db) (.slice yc mc dc_) (la, lb, lc, f, M) from (ho5.mono hsz).fiveT hg5)
    have HR6 := Lib.hid (show Blk ((((((w5).setCell ⟨g, 0, none⟩ (.slice ya ma da)).setCell ⟨g, 1, none⟩ (.slice yb mb db)).setCell ⟨g, 2, none⟩ (.slice yc mc dc_)).setCell ⟨g, 3, none⟩ (.int .i64 f)).setCell ⟨g, 4, none⟩ (.int .i64 M)) w.heap.size (dc (.slice none 0 0) (.slice none 0 0) (.slice none 0 0) 0 0) 31 from blk5 HR5.out (fun e => hg0 e.symm))
    have HL6 := Lib.hid (show RO (w.heap.size + 1 + 1) ((((((w5).setCell ⟨g, 0, none⟩ (.slice ya ma da)).setCell ⟨g, 1, none⟩ (.slice yb mb db)).setCell ⟨g, 2, none⟩ (.slice yc mc dc_)).setCell ⟨g, 3, none⟩ (.int .i64 f)).setCell ⟨g, 4, none⟩ (.int .i64 M)) (.slice (some ⟨b, 0, none⟩) nl cl) L from by
      have st : ∀ {W : World} {cs : Array Value} (i : Nat) (y : Value), Blk W g cs 31 → RO (w.heap.size + 1 + 1) W (.slice (some ⟨b, 0, none⟩) nl cl) L → RO (w.heap.size + 1 + 1) (W.setCell ⟨g, i, none⟩ y) (.slice (some ⟨b, 0, none⟩) nl cl) L := fun i y h1 h2 => h2.setT h1 (by decide) (by decide)
      exact st 4 _ ((((hg5.set 0 _).set 1 _).set 2 _).set 3 _) (st 3 _ (((hg5.set 0 _).set 1 _).set 2 _) (st 2 _ ((hg5.set 0 _).set 1 _) (st 1 _ (hg5.set 0 _) (st 0 _ hg5 hl5)))))
    have hgw : w.heap.size ≤ g := hgw0
    have HB6 := Lib.hid (show Below w.heap.size w ((((((w5).setCell ⟨g, 0, none⟩ (.slice ya ma da)).setCell ⟨g, 1, none⟩ (.slice yb mb db)).setCell ⟨g, 2, none⟩ (.slice yc mc dc_)).setCell ⟨g, 3, none⟩ (.int .i64 f)).setCell ⟨g, 4, none⟩ (.int .i64 M)) from below5 (HAL.out.trans (HC5.out.below.mono HAL.out.size)) hgw)
    clear hg5 ho5 hl5 hM hc5 hk5
    generalize ((((((w5).setCell ⟨g, 0, none⟩ (.slice ya ma da)).setCell ⟨g, 1, none⟩ (.slice yb mb db)).setCell ⟨g, 2, none⟩ (.slice yc mc dc_)).setCell ⟨g, 3, none⟩ (.int .i64 f)).setCell ⟨g, 4, none⟩ (.int .i64 M)) = w6 at *
    go_wp2_with fail
    refine dpr6 HG6 HR6 ?_
    intro u25 u26 wz hbz
    have hxr := HR6.out.on hbz
    have Z1 := Lib.hid (set5 (a := .slice ya ma da) (b := .slice yb mb db) (c := .slice yc mc dc_) (f := f) (s := M) hxr)
    have Z2 := Lib.hid (show RO w.heap.size ((((((wz).setCell ⟨w.heap.size, 0, none⟩ (.slice ya ma da)).setCell ⟨w.heap.size, 1, none⟩ (.slice yb mb db)).setCell ⟨w.heap.size, 2, none⟩ (.slice yc mc dc_)).setCell ⟨w.heap.size, 3, none⟩ (.int .i64 f)).setCell ⟨w.heap.size, 4, none⟩ (.int .i64 M)) (.slice (some ⟨b, 0, none⟩) nl cl) L from by
      have st : ∀ {W : World} {cs : Array Value} (i : Nat) (y : Value), Blk W w.heap.size cs 31 → RO (w.heap.size + 1 + 1) W (.slice (some ⟨b, 0, none⟩) nl cl) L → RO (w.heap.size + 1 + 1) (W.setCell ⟨w.heap.size, i, none⟩ y) (.slice (some ⟨b, 0, none⟩) nl cl) L := fun i y h1 h2 => h2.setT h1 (by decide) (by decide)
      exact (st 4 _ ((((hxr.set 0 _).set 1 _).set 2 _).set 3 _) (st 3 _ (((hxr.set 0 _).set 1 _).set 2 _) (st 2 _ ((hxr.set 0 _).set 1 _) (st 1 _ (hxr.set 0 _) (st 0 _ hxr (HL6.out.on hbz)))))).mono (by omega))
    have Z3 := Lib.hid ((HO6.out.on hbz).fiveT (a1 := .slice ya ma da) (b1 := .slice yb mb db) (c1 := .slice yc mc dc_) (f := f) (s := M) hxr)
    have Z4 := Lib.hid (below5 (a := .slice ya ma da) (b := .slice yb mb db) (c := .slice yc mc dc_) (f := f) (s := M) (HB6.out.trans (hbz.mono HB6.out.size)) (Nat.le_refl _))
    clear hxr hbz
    go_wp2_with fail
    refine bodyPost_ret (Ret.results_tcD rfl _ _ w.heap.size (dc (.slice ya ma da) (.slice yb mb db) (.slice yc mc dc_) f M).toList rfl aggD Z1.out.cells) rfl ?_
    exact ⟨L, la, lb, lc, f, M, _, _, _, _, _, _, _, _, _, _, _, _, rfl, Z2.out, hL6, HS.out, Z3.out.mono (by omega), HBL.out, ⟨HWF.out.1, HWF.out.2.1, HWF.out.2.2.1, HWF.out.2.2.2.1, show (Lit.int .i64 M).wf = true from wf_of (by have h9 := HMI.out; omega) (by have h9 := HMI.out; omega)⟩, Z4.out⟩

set_option maxHeartbeats 8000000 in
theorem dDrawVerifySignature (w : World) (v : Value) (l : List UInt8) (hb : Frame.Bytes w v l) :
    Calls Tryz.prog 8 #[v] w (QKD w) := by
  have hal : Below w.heap.size w (w.alloc (.cells (dc (.slice none 0 0) (.slice none 0 0) (.slice none 0 0) 0 0) 31)) := (Below.refl _ _).alloc (Nat.le_refl _) _
  have HAL := Lib.hid hal
  have HR0 := Lib.hid (Blk.new w (dc (.slice none 0 0) (.slice none 0 0) (.slice none 0 0) 0 0) 31)
  have HN := Lib.hid (l9Pair (w.alloc (.cells (dc (.slice none 0 0) (.slice none 0 0) (.slice none 0 0) 0 0) 31)) v l (hb.on hal)); clear hb hal
  go_enter Tryz.func8, Tryz.ntmps8
  go_wp2_with fail
  refine HN.out.mono ?_
  rintro e w1 ⟨L, la, lb, lc, f, s, xl, xa, xb, xc, nl, cl, na, ca, nb, cb, nc, cc, rfl, hl1, hL6, hs, ho1, hbl, hwf, hb1⟩
  have HR1 := Lib.hid (HR0.out.on hb1)
  have HB1 := Lib.hid (HAL.out.trans (hb1.mono HAL.out.size))
  have HS := Lib.hid hs; have HBL := Lib.hid hbl; have HWF := Lib.hid hwf
  simp only [World.size_alloc] at hl1 ho1
  have Z1 := Lib.hid (set5 (a := .slice xa na ca) (b := .slice xb nb cb) (c := .slice xc nc cc) (f := f) (s := s) HR1.out)
  have Z2 := Lib.hid (show kK.At ((((((w1).setCell ⟨w.heap.size, 0, none⟩ (.slice xa na ca)).setCell ⟨w.heap.size, 1, none⟩ (.slice xb nb cb)).setCell ⟨w.heap.size, 2, none⟩ (.slice xc nc cc)).setCell ⟨w.heap.size, 3, none⟩ (.int .i64 f)).setCell ⟨w.heap.size, 4, none⟩ (.int .i64 s)) (.slice xl nl cl) (strip L) from by
    have hxr := HR1.out
    have st : ∀ {W : World} {cs : Array Value} (i : Nat) (y : Value), Blk W w.heap.size cs 31 → RO (w.heap.size + 1) W (.slice xl nl cl) L → RO (w.heap.size + 1) (W.setCell ⟨w.heap.size, i, none⟩ y) (.slice xl nl cl) L := fun i y h1 h2 => h2.setT h1 (by decide) (by decide)
    exact (st 4 _ ((((hxr.set 0 _).set 1 _).set 2 _).set 3 _) (st 3 _ (((hxr.set 0 _).set 1 _).set 2 _) (st 2 _ ((hxr.set 0 _).set 1 _) (st 1 _ (hxr.set 0 _) (st 0 _ hxr hl1))))).at)
  have Z3 := Lib.hid (ho1.fiveT (a1 := .slice xa na ca) (b1 := .slice xb nb cb) (c1 := .slice xc nc cc) (f := f) (s := s) HR1.out)
  have Z4 := Lib.hid (below5 (a := .slice xa na ca) (b := .slice xb nb cb) (c := .slice xc nc cc) (f := f) (s := s) HB1.out (Nat.le_refl _))
  obtain ⟨k0, k1, k2, k3, k4⟩ := keepC5 HR1.out
  have t0 := HR1.out.frozen 0; have t1 := HR1.out.frozen 1; have t2 := HR1.out.frozen 2; have t3 := HR1.out.frozen 3; have t4 := HR1.out.frozen 4
  clear hl1 ho1 hs hbl hwf hb1 HN
  go_wp2_with fail
  refine bodyPost_ret (Ret.results_tcD rfl _ _ w.heap.size (dc (.slice xa na ca) (.slice xb nb cb) (.slice xc nc cc) f s).toList rfl aggD Z1.out.cells) rfl ?_
  exact ⟨_, (la, lb, lc, f, s), _, _, rfl, Z2.out, by rw [strip_length]; exact hL6, HS.out, kD_of (x := (la, lb, lc, f, s)) Z3.out.hold, HBL.out, HWF.out, Z4.out⟩
end Go.Proofs.YtnblopilgfdjkaaGreat.Draw
