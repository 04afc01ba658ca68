/- Contract of the model's PutEntry. No conditions but that lengths fit. -/
import Derived.Test.YtihcebjbkifbpaaTabPut
import Derived.Deep.CutBlock
import Derived.BigQuiet
namespace Go.Proofs.Ytihcebjbkifbpaa.Row
open Go.ChangeShapes Go.WideShapes Go.ChangeAt Go.RowKit Go.Instr
set_option linter.unusedVariables false
set_option maxRecDepth 100000

/-- The entry's name is not less. -/
def geN (n : List ByteArray) (x : List ByteArray × Int) : Bool := decide (0 ≤ cmpL x.1 n)
theorem geN_gtN {T : List (List ByteArray × Int)} {n : List ByteArray} (h : noP (isN n) T T.length) {k : Nat} (hk : k ≤ T.length) (hb : noP (geN n) T k) (he : k < T.length → geN n (nth T k) = true) : T.findIdx (gtN n) = k := by
  have key : ∀ j, j < T.length → geN n (nth T j) = gtN n (nth T j) := by
    intro j hj
    have h1 := h j hj
    unfold isN at h1
    rw [eqB_cmp] at h1
    have h2 : cmpL (nth T j).1 n ≠ 0 := by simpa using h1
    unfold geN gtN
    exact decide_eq_decide.2 (by omega)
  by_cases hkl : k < T.length
  · exact fp_at hkl (fun j hj => by rw [← key j (by omega)]; exact hb j hj) (by rw [← key k hkl]; exact he hkl)
  · have e : k = T.length := by omega
    subst e
    exact fp_none (fun j hj => by rw [← key j hj]; exact hb j hj)

/-- step_appK, where the source's address is not written out. -/
theorem step_appKo {P : Program} {ops : Array Oper} {o : Oper} {a : Act} {w : World} {K : Act → World → Prop} {Q : Exit → Act → World → Prop} {E : Prop} {α : Type} {enc : α → List Value} {sz : Nat} {e t : TypeId} {bytes : Nat} {z : Value}
    (KD : Kind P e enc z sz bytes) (hg : o.guard = none) (s x : Operand) (hop : o.op = Op.call { callee := Callee.builtin Builtin.append, args := #[s, x], argTypes := #[t, t] }) (ht : P.underlying t = some (.slice e))
    {B : Nat} {v : Value} {xo : Option Addr} {n c : Nat} {l m : List α} (hs : a.eval s = v) (hx : a.eval x = .slice xo n c) (hxo : xo ≠ none) (hown : OwnK e enc sz B w v l) (hsrc : HoldsK enc sz w (.slice xo n c) m) (hlen : (l.length + m.length) * bytes ≤ 140737488355328) (hmx : l.length + m.length ≤ maxLen) (hB : B ≤ w.heap.size)
    (hK : ∀ v' w', OwnK e enc sz B w' v' (l ++ m) → w.grownBy w' v.ownBlock → K (a.put o.dst v') w') :
    if Region.wanted o (yielded ops a.tmps) = true then Oper.wp P o a w K Q else E := by
  cases xo with
  | none => exact absurd rfl hxo
  | some ad => exact step_appK KD hg s x hop ht hs hx hown hsrc hlen hmx hB hK

theorem ne_blk {a b o o' n n' c c' : Nat} (h : a ≠ b) : ∀ g, (Value.slice (some ⟨a, o, none⟩) n c).ownBlock = some g → some g ≠ (Value.slice (some ⟨b, o', none⟩) n' c').ownBlock := by
  intro g h1 h2
  have e1 : a = g := by simpa [Value.ownBlock] using h1
  have e2 : g = b := by simpa [Value.ownBlock] using h2
  exact h (e1.trans e2)
/-- An entry more at place k, in a row of its own. -/
theorem TabO.ins {B : Nat} {w : World} {v v' : Value} {L : List Ent} {x : Ent} {k : Nat} (h : TabO B w v L) (hx : Own 9 Value.string B w x.v x.ps) (hap : ∀ y ∈ L, Apart y.v x.v) (ho : OwnK 44 encE 2 B w v' ([] ++ L.take k ++ [x] ++ L.drop k)) : TabO B w v' ([] ++ L.take k ++ [x] ++ L.drop k) := by
  have hp : List.Perm ([] ++ L.take k ++ [x] ++ L.drop k) (L ++ [x]) := by
    have h1 : List.Perm (L.take k ++ x :: L.drop k) (x :: (L.take k ++ L.drop k)) := List.perm_middle
    rw [List.take_append_drop] at h1
    simpa using h1.trans (List.perm_append_singleton x L).symm
  have hpw : (L ++ [x]).Pairwise (fun a b => Apart a.v b.v) := by
    rw [List.pairwise_append]
    exact ⟨h.2.2, by simp, fun a ha b hb => by rw [List.mem_singleton.1 hb]; exact hap a ha⟩
  refine ⟨ho, fun y hy => ?_, (List.Perm.pairwise_iff (fun {x y} h => Apart.symm h) hp).2 hpw⟩
  rcases List.mem_append.1 (hp.mem_iff.1 hy) with hy | hy
  · exact h.2.1 y hy
  · rw [List.mem_singleton.1 hy]; exact hx
theorem empK (w : World) (O : Obj) : OwnK 44 encE 2 (w.heap.size + 1) (((w.alloc O).alloc (.cells #[] 44)).drew) (.slice (some ⟨w.heap.size + 1, 0, none⟩) 0 0) [] := by
  have := ownK_empty encE 2 44 (w.alloc O)
  rw [World.size_alloc] at this
  exact this.on (Below.refl _ _).drew
theorem empK2 (w : World) (O O' : Obj) : OwnK 44 encE 2 (w.heap.size + 1 + 1) ((((w.alloc O).alloc O').alloc (.cells #[] 44)).drew) (.slice (some ⟨w.heap.size + 1 + 1, 0, none⟩) 0 0) [] := by
  have := empK (w.alloc O) O'
  rwa [World.size_alloc] at this
theorem one1 (w : World) (O : Obj) (z : Ent) : HoldsK encE 2 (((w.alloc O).alloc (.cells (encE z).toArray 44)).drew) (.slice (some ⟨w.heap.size + 1, 0, none⟩) 1 1) [z] := by
  have := holdsK_one szE 44 (w.alloc O) z
  rw [World.size_alloc] at this
  exact this.on (Below.refl _ _).drew
theorem one2 (w : World) (O O' : Obj) (z : Ent) : HoldsK encE 2 ((((w.alloc O).alloc O').alloc (.cells (encE z).toArray 44)).drew) (.slice (some ⟨w.heap.size + 1 + 1, 0, none⟩) 1 1) [z] := by
  have := one1 (w.alloc O) O' z
  rwa [World.size_alloc] at this
theorem sz_le {W W' : World} {n : Nat} (h : Below W.heap.size W W') (e : W.heap.size = n) : n ≤ W'.heap.size := e ▸ h.size

set_option maxHeartbeats 8000000 in
theorem specPutEntry (v u : Value) (T : List (List ByteArray × Int)) (m : List ByteArray) (a : Int) (w : World) (h : TabHolds w v T) (g : Holds Value.string w u m) (hl : T.length ≤ 3000000) (hT : smT T) (hm : bulk m ≤ 9000000) :
    Calls Try.prog 14 #[v, .agg #[u], .int .i64 a] w (GivesTB w (putT T m a) (putOk T m a)) := by
  obtain ⟨L, rfl, h⟩ := h
  obtain ⟨x, n, cx, rfl, hn, hcx, hh⟩ := h.shapeN
  obtain ⟨y, q, cy, rfl, -, hcy, hg⟩ := g.shapeN
  rw [strip_length, ← hn] at hl
  have hb0 := (Below.refl w.heap.size w).alloc (Nat.le_refl _) (.cells #[.slice y q cy] 27)
  have HB0 := Lib.hid hb0
  have HX0 := Lib.hid (Ret.Box.new w (.slice y q cy) 27)
  have HH := Lib.hid hh
  have HH0 := Lib.hid (hh.on hb0)
  have HG0 := Lib.hid (hg.on hb0)
  have HT := Lib.hid hT
  have HN := Lib.hid hn
  have HLL := Lib.hid (show L.length ≤ 4000000 by omega)
  have HLQ := Lib.hid (show (putRaw (strip L) m a).length ≤ 100000000 by have := putRaw_length (strip L) m a; rw [strip_length] at this; omega)
  have HSM := Lib.hid (smT_putRaw (v := a) hT hm)
  have HML := Lib.hid (Nat.le_trans (bulk_len m) hm)
  clear h hh hb0 g hg hT hn hm
  go_enter Try.func14, Try.ntmps14
  go_wp2_with fail
  refine (l6CopyB _ (strip L) _ ⟨L, rfl, HH0.out⟩ (by rw [strip_length]; exact HLL.out) HT.out).mono ?_
  rintro e w1 ⟨v1, rfl, ⟨L1, hL1, ho1⟩, hb1, hne1⟩
  have HL1 := Lib.hid hL1
  have HO1 := Lib.hid (ho1.mono (B' := w.heap.size) (by simp))
  have HB1 := Lib.hid (HB0.out.trans (hb1.mono HB0.out.size))
  have HX1 := Lib.hid (HX0.out.on hb1)
  have HH1 := Lib.hid (HH0.out.on hb1)
  have HG1 := Lib.hid (HG0.out.on hb1)
  have HNB := Lib.hid (show ∀ g, v1.ownBlock = some g → w.heap.size < g from fun g hg => by have := (ho1.lt.1 g hg).1; simp at this; omega)
  have HNN := Lib.hid (show ∀ x ∈ L1, ∀ g, x.v.ownBlock = some g → w.heap.size < g from fun x hx g hg => by have := (ho1.lt.2 x hx g hg).1; simp at this; omega)
  obtain ⟨xv, nv, cv, rfl, hnv, hcv, -⟩ := ho1.shapeN
  obtain ⟨g4, rfl⟩ : ∃ g4, xv = some ⟨g4, 0, none⟩ := by
    rcases HO1.out.1.form with ⟨e, -⟩ | ⟨g4, c4, e, -⟩
    · cases e; exact absurd rfl hne1
    · cases e; exact ⟨g4, rfl⟩
  clear hne1
  have HNV := Lib.hid hnv
  clear hnv
  have hx1 := HX1.out.cell
  clear ho1 hb1 hL1
  go_wp2_with fail
  refine (l6Find _ _ (strip L) m _ ⟨L, rfl, HH1.out⟩ HG1.out (by rw [strip_length]; have := HLL.out; omega) HT.out HML.out).mono ?_
  rintro e w2 ⟨rfl, hb2⟩
  have HO2 := Lib.hid (HO1.out.on hb2)
  have HB2 := Lib.hid (HB1.out.trans (hb2.mono HB1.out.size))
  have HX2 := Lib.hid (HX1.out.on hb2)
  have HG2 := Lib.hid (HG1.out.on hb2)
  have HLE := Lib.hid (show L1.length = L.length by rw [← strip_length L1, HL1.out, strip_length])
  clear hb2 hx1
  have hx2 := HX2.out.cell
  rcases ixT_cases (isN m) (strip L) with ⟨h1, h2, h3⟩ | ⟨i, hi, h1, h2, -⟩
  · rw [h1]
    have HRAW : Hid (putRaw (strip L) m a = insT (strip L) m a) := Lib.hid (by unfold putRaw; rw [if_neg (by omega)])
    have HNO := Lib.hid h3
    clear h1 h2 h3
    have HLL1 := Lib.hid (show L1.length ≤ 4000000 by rw [HLE.out]; exact HLL.out)
    have hnv6 : nv ≤ 4000000 := by rw [HNV.out]; exact HLL1.out
    have HT1 := Lib.hid (show smT (strip L1) by rw [HL1.out]; exact HT.out)
    have HNO1 := Lib.hid (show noP (isN m) (strip L1) (strip L1).length by rw [HL1.out]; exact HNO.out)
    go_upto_block 0 with fail
    go_cut [9] from 23 to 38 (fun i wx => ∃ k : Nat, k ≤ nv ∧ i = .int .i64 k ∧ Hid (noP (geN m) (strip L1) k) ∧ Hid (k < nv → geN m (nth (strip L1) k) = true) ∧ Hid (Below w2.heap.size w2 wx))
    case first =>
      go_wp2_with fail
      go_loopw [9] (fun i wr => ∃ k : Nat, k ≤ nv ∧ i = .int .i64 k ∧ Hid (noP (geN m) (strip L1) k) ∧ Hid (Below w2.heap.size w2 wr)) (fun i _ => nv - (intOf i).toNat)
      case atStart => exact ⟨0, Nat.zero_le _, rfl, Lib.hid (noP_zero _ _), Lib.hid (Below.refl _ _)⟩
      case round =>
        obtain ⟨k, hk, rfl, hno, hb⟩ := hrel
        by_cases hlt : k < nv
        · have hk1 : k < L1.length := by have := HNV.out; omega
          obtain ⟨⟨hc, -⟩, -, hnm⟩ := (HO2.out.on hb.out).cells HNV.out hk1
          have HL := Lib.hid (smT_psl HT1.out (k := k) hk1)
          have HNM := Lib.hid (hnm.holds.on (Below.refl wr.heap.size wr).drew)
          have HGM := Lib.hid ((HG2.out.on hb.out).on (Below.refl wr.heap.size wr).drew)
          have hx := (HX2.out.on hb.out).cell
          have HST := Lib.hid (strip_nth hk1)
          have hk0 : (0 : Int) ≤ (k : Int) := by omega
          have hk2 : (k : Int) < (nv : Int) := by omega
          obtain ⟨c, hcc⟩ : ∃ c, cmpL (nth L1 k).ps m = c := ⟨_, rfl⟩
          have HCC := Lib.hid hcc
          have KS := Lib.hid (show wr.drew.cell? ⟨g4, k * 2, none⟩ = some (.slice (nth L1 k).ad (nth L1 k).n (nth L1 k).cap) ∧ wr.drew.cell? ⟨w.heap.size, 0, none⟩ = some (.slice y q cy) ∧ Below wr.heap.size wr wr.drew from ⟨hc, hx, (Below.refl _ _).drew⟩)
          clear hcc hk1 hnm hc hx
          by_cases he : c < 0
          · have HN2 := Lib.hid (noP_succ hno.out (show geN m (nth (strip L1) k) = false by rw [HST.out]; unfold geN; exact decide_eq_false (by rw [show cmpL (nth L1 k).t.1 m = c from HCC.out]; omega)))
            go_wp2_with fail
            go_region_held3 (fun w' => w'.cell? ⟨g4, k * 2, none⟩ = some (.slice (nth L1 k).ad (nth L1 k).n (nth L1 k).cap) ∧ w'.cell? ⟨w.heap.size, 0, none⟩ = some (.slice y q cy) ∧ Below wr.heap.size wr w') (first | exact KS.out | exact keepN2 KS.out hb1) ((go_at_call 53; refine (sCmpV c HCC.out HNM.out HGM.out HL.out (by exact HML.out)).mono ?_; rintro e w1 ⟨rfl, hb1⟩))
            all_goals
              have HW := Lib.hid (keepN2 KS.out hb1).2.2
              clear hb1
              have HBd := Lib.hid (hb.out.trans (HW.out.mono hb.out.size))
              go_wp2_with fail
              go_roundw
              case rel => exact ⟨k + 1, by omega, by go_num, HN2, HBd⟩
              case measure => simp [intOf]; omega
          · have HGE := Lib.hid (show k < nv → geN m (nth (strip L1) k) = true from fun _ => by rw [HST.out]; unfold geN; exact decide_eq_true (by rw [show cmpL (nth L1 k).t.1 m = c from HCC.out]; omega))
            go_wp2_with fail
            go_region_held3 (fun w' => w'.cell? ⟨g4, k * 2, none⟩ = some (.slice (nth L1 k).ad (nth L1 k).n (nth L1 k).cap) ∧ w'.cell? ⟨w.heap.size, 0, none⟩ = some (.slice y q cy) ∧ Below wr.heap.size wr w') (first | exact KS.out | exact keepN2 KS.out hb1) ((go_at_call 53; refine (sCmpV c HCC.out HNM.out HGM.out HL.out (by exact HML.out)).mono ?_; rintro e w1 ⟨rfl, hb1⟩))
            all_goals
              have HW := Lib.hid (keepN2 KS.out hb1).2.2
              clear hb1
              have HBd := Lib.hid (hb.out.trans (HW.out.mono hb.out.size))
              go_wp2_with fail
              go_meet
              case rel => exact ⟨k, by omega, rfl, hno, HGE, HBd⟩
        · obtain rfl : k = nv := by omega
          clear hlt
          go_wp2_with (go_quiet (fail))
          go_meet
          case rel => exact ⟨k, Nat.le_refl _, rfl, hno, Lib.hid (fun h => absurd h (by omega)), Lib.hid (below_drewN hb.out _)⟩
    case rest =>
      obtain ⟨k, hk, rfl, hno, hge, hb⟩ := hcut
      have HFI : Hid ((strip L1).findIdx (gtN m) = k) := Lib.hid (geN_gtN HNO1.out (by rw [strip_length, ← HNV.out]; exact hk) hno.out (fun h => hge.out (by rw [strip_length] at h; have := HNV.out; omega)))
      have hxc := (HX2.out.on hb.out).cell
      have HGc := Lib.hid (HG2.out.on hb.out)
      have HOc := Lib.hid (HO2.out.on hb.out)
      have HBc := Lib.hid (HB2.out.trans (hb.out.mono HB2.out.size))
      have hk0 : (0 : Int) ≤ (k : Int) := by omega
      have hk1 : (k : Int) ≤ (nv : Int) := by omega
      have hk2 : (k : Int) ≤ (cv : Int) := by omega
      clear hno hge hb hx2
      go_wp2_with fail
      refine (l4Copy _ m _ HGc.out (Nat.le_trans HML.out (by decide))).mono ?_
      rintro e w3 ⟨v3, rfl, ho3, hb3⟩
      obtain ⟨x3, n3, c3, rfl, -, -, ho3⟩ := ho3.shapeN
      have HO3 := Lib.hid (HOc.out.on hb3)
      have HAP := Lib.hid (HOc.out.fresh (fun g hg => (ho3.lt g hg).1))
      have HE3 := Lib.hid (ho3.mono HBc.out.size)
      have HB3w := Lib.hid (HBc.out.trans (hb3.mono HBc.out.size))
      clear ho3 hb3 hxc
      go_wp2_with fail
      have hW : Below w3.heap.size w3 (w3.alloc (.cells #[.slice x3 n3 c3, .int .i64 a] 44)).drew := ((Below.refl _ _).alloc (Nat.le_refl _) _).drew
      have HW := Lib.hid hW
      have KS := Lib.hid (show (w3.alloc (.cells #[.slice x3 n3 c3, .int .i64 a] 44)).drew.cell? ⟨w3.heap.size, 0, none⟩ = some (.slice x3 n3 c3) ∧ (w3.alloc (.cells #[.slice x3 n3 c3, .int .i64 a] 44)).drew.cell? ⟨w3.heap.size, 1, none⟩ = some (.int .i64 a) ∧ Below (w3.alloc (.cells #[.slice x3 n3 c3, .int .i64 a] 44)).drew.heap.size (w3.alloc (.cells #[.slice x3 n3 c3, .int .i64 a] 44)).drew (w3.alloc (.cells #[.slice x3 n3 c3, .int .i64 a] 44)).drew from ⟨by rw [World.cell?_drew, World.cell?_alloc_at _ _ _ _ rfl]; rfl, by rw [World.cell?_drew, World.cell?_alloc_at _ _ _ _ rfl]; rfl, Below.refl _ _⟩)
      have HTK := Lib.hid ((HO3.out.on hW).1.holds.take szE (i := k) (by have := HNV.out; omega))
      have hdr := (HO3.out.on hW).1.holds.drop szE (i := k) (by have := HNV.out; omega)
      rw [Nat.zero_add] at hdr
      obtain ⟨xo, hxo⟩ : ∃ xo : Option Addr, xo = if cv = k then some ⟨g4, 0, none⟩ else some ⟨g4, k * 2, none⟩ := ⟨_, rfl⟩
      have hdr : HoldsK encE 2 (w3.alloc (.cells #[.slice x3 n3 c3, .int .i64 a] 44)).drew (.slice (if cv = k then some ⟨g4, 0, none⟩ else some ⟨g4, k * 2, none⟩) (nv - k) (cv - k)) (L1.drop k) := by
        split
        · have h0 : L1.drop k = [] := List.drop_eq_nil_of_le (by have := HNV.out; omega)
          rw [h0, show nv - k = 0 by omega]
          exact ⟨_, _, rfl, by simp, Or.inl rfl⟩
        · exact hdr
      have hxn : (if cv = k then some (⟨g4, 0, none⟩ : Addr) else some ⟨g4, k * 2, none⟩) ≠ none := by split <;> simp
      have HXN := Lib.hid hxn
      clear hxo hxn
      have HDR := Lib.hid hdr
      have HW0S := Lib.hid (show (w3.alloc (.cells #[.slice x3 n3 c3, .int .i64 a] 44)).drew.heap.size = w3.heap.size + 1 by simp)
      have HB1 := Lib.hid (show Below (w3.alloc (.cells #[.slice x3 n3 c3, .int .i64 a] 44)).drew.heap.size (w3.alloc (.cells #[.slice x3 n3 c3, .int .i64 a] 44)).drew ((w3.alloc (.cells #[.slice x3 n3 c3, .int .i64 a] 44)).alloc (.cells #[] 44)).drew from ((Below.refl _ _).alloc (Nat.le_refl _) (.cells #[] 44)))
      have HB2 := Lib.hid (show Below (w3.alloc (.cells #[.slice x3 n3 c3, .int .i64 a] 44)).drew.heap.size (w3.alloc (.cells #[.slice x3 n3 c3, .int .i64 a] 44)).drew (((w3.alloc (.cells #[.slice x3 n3 c3, .int .i64 a] 44)).alloc (.cells #[] 44)).alloc (.cells #[.slice x3 n3 c3, .int .i64 a] 44)).drew from ((Below.refl _ _).alloc (Nat.le_refl _) (.cells #[] 44)).alloc (by simp) (.cells #[.slice x3 n3 c3, .int .i64 a] 44))
      have HBD := Lib.hid (show Below (w3.alloc (.cells #[.slice x3 n3 c3, .int .i64 a] 44)).drew.heap.size (w3.alloc (.cells #[.slice x3 n3 c3, .int .i64 a] 44)).drew ((w3.alloc (.cells #[.slice x3 n3 c3, .int .i64 a] 44)).alloc (.cells #[.slice x3 n3 c3, .int .i64 a] 44)).drew from ((Below.refl _ _).alloc (Nat.le_refl _) (.cells #[.slice x3 n3 c3, .int .i64 a] 44)))
      have HB3 := Lib.hid (show Below (w3.alloc (.cells #[.slice x3 n3 c3, .int .i64 a] 44)).drew.heap.size (w3.alloc (.cells #[.slice x3 n3 c3, .int .i64 a] 44)).drew (((w3.alloc (.cells #[.slice x3 n3 c3, .int .i64 a] 44)).alloc (.cells #[.slice x3 n3 c3, .int .i64 a] 44)).alloc (.cells #[] 44)).drew from ((Below.refl _ _).alloc (Nat.le_refl _) (.cells #[.slice x3 n3 c3, .int .i64 a] 44)).alloc (by simp) (.cells #[] 44))
      have HA1 := Lib.hid (empK w3 (.cells #[.slice x3 n3 c3, .int .i64 a] 44))
      have HA2 := Lib.hid (show OwnK 44 encE 2 (w3.heap.size + 1) (((w3.alloc (.cells #[.slice x3 n3 c3, .int .i64 a] 44)).alloc (.cells #[] 44)).alloc (.cells #[.slice x3 n3 c3, .int .i64 a] 44)).drew (.slice (some ⟨w3.heap.size + 1, 0, none⟩) 0 0) [] from HA1.out.on ((Below.refl _ _).alloc (Nat.le_refl _) (.cells #[.slice x3 n3 c3, .int .i64 a] 44)))
      have HA3 := Lib.hid (show OwnK 44 encE 2 (w3.heap.size + 1) (((w3.alloc (.cells #[.slice x3 n3 c3, .int .i64 a] 44)).alloc (.cells #[.slice x3 n3 c3, .int .i64 a] 44)).alloc (.cells #[] 44)).drew (.slice (some ⟨w3.heap.size + 1 + 1, 0, none⟩) 0 0) [] from (empK2 w3 (.cells #[.slice x3 n3 c3, .int .i64 a] 44) (.cells #[.slice x3 n3 c3, .int .i64 a] 44)).mono (by omega))
      have HD2 := Lib.hid (show HoldsK encE 2 (((w3.alloc (.cells #[.slice x3 n3 c3, .int .i64 a] 44)).alloc (.cells #[] 44)).alloc (.cells #[.slice x3 n3 c3, .int .i64 a] 44)).drew (.slice (some ⟨w3.heap.size + 1 + 1, 0, none⟩) 1 1) [⟨x3, n3, c3, m, a⟩] from one2 w3 (.cells #[.slice x3 n3 c3, .int .i64 a] 44) (.cells #[] 44) ⟨x3, n3, c3, m, a⟩)
      have HD3 := Lib.hid (show HoldsK encE 2 (((w3.alloc (.cells #[.slice x3 n3 c3, .int .i64 a] 44)).alloc (.cells #[.slice x3 n3 c3, .int .i64 a] 44)).alloc (.cells #[] 44)).drew (.slice (some ⟨w3.heap.size + 1, 0, none⟩) 1 1) [⟨x3, n3, c3, m, a⟩] from (one1 w3 (.cells #[.slice x3 n3 c3, .int .i64 a] 44) ⟨x3, n3, c3, m, a⟩).on ((Below.refl _ _).alloc (Nat.le_refl _) (.cells #[] 44)))
      have HTL := Lib.hid (show (L1.take k).length = k by rw [List.length_take]; have := HNV.out; omega)
      have HDL := Lib.hid (show (L1.drop k).length = nv - k by rw [List.length_drop]; have := HNV.out; omega)
      have HLM1 := Lib.hid (show (([] : List Ent).length + (L1.take k).length) * 32 ≤ 140737488355328 by rw [HTL.out]; simp; omega)
      have HLX1 := Lib.hid (show ([] : List Ent).length + (L1.take k).length ≤ maxLen by rw [HTL.out]; unfold maxLen; simp; omega)
      have HLM2 := Lib.hid (show (([] ++ L1.take k).length + [(⟨x3, n3, c3, m, a⟩ : Ent)].length) * 32 ≤ 140737488355328 by rw [List.nil_append, HTL.out]; simp; omega)
      have HLX2 := Lib.hid (show ([] ++ L1.take k).length + [(⟨x3, n3, c3, m, a⟩ : Ent)].length ≤ maxLen by rw [List.nil_append, HTL.out]; unfold maxLen; simp; omega)
      have HLM3 := Lib.hid (show (([] ++ L1.take k ++ [(⟨x3, n3, c3, m, a⟩ : Ent)]).length + (L1.drop k).length) * 32 ≤ 140737488355328 by rw [List.nil_append, List.length_append, HTL.out, HDL.out]; simp; omega)
      have HLX3 := Lib.hid (show ([] ++ L1.take k ++ [(⟨x3, n3, c3, m, a⟩ : Ent)]).length + (L1.drop k).length ≤ maxLen by rw [List.nil_append, List.length_append, HTL.out, HDL.out]; unfold maxLen; simp; omega)
      clear hW hdr ho3
      go_region_held3 (fun w' => w'.cell? ⟨w3.heap.size, 0, none⟩ = some (.slice x3 n3 c3) ∧ w'.cell? ⟨w3.heap.size, 1, none⟩ = some (.int .i64 a) ∧ Below (w3.alloc (.cells #[.slice x3 n3 c3, .int .i64 a] 44)).drew.heap.size (w3.alloc (.cells #[.slice x3 n3 c3, .int .i64 a] 44)).drew w') (first | with_reducible exact KS.out | with_reducible exact keepN2 KS.out HB1.out | with_reducible exact keepN2 KS.out HBD.out | with_reducible exact keepN2 KS.out HB2.out | with_reducible exact keepN2 KS.out HB3.out | with_reducible exact keepN2 KS.out HB7.out | with_reducible exact keepN2 KS.out HB6.out | with_reducible exact keepN2 KS.out HE5.out | with_reducible exact keepN2 KS.out HB5.out) (first | (refine step_appKo kindE (B := w3.heap.size + 1) (v := v6) (l := [] ++ L1.take k ++ [⟨x3, n3, c3, m, a⟩]) (m := L1.drop k) rfl _ _ (by rfl) Try.underlying24 (by rfl) (by rfl) ?_ ?_ ?_ ?_ ?_ ?_ ?_; (exact HXN.out); (with_reducible exact HO6.out); (with_reducible exact HDR.out.on HB6.out); (exact HLM3.out); (exact HLX3.out); (exact HS6.out); intro v7 w7 ho7 hg7; have HB7 := Lib.hid (HB6.out.grown hg7 HB6.out.size (fun g hg => by have := (HO6.out.lt g hg).1; have := HW0S.out; omega)); have HO7 := Lib.hid ho7; clear ho7 hg7) | (refine step_appK kindE (B := w3.heap.size + 1) (v := v5) (l := [] ++ L1.take k) (m := [⟨x3, n3, c3, m, a⟩]) rfl _ _ (by rfl) Try.underlying24 (by rfl) (by rfl) ?_ ?_ HLM2.out HLX2.out HS5.out ?_; (with_reducible exact HO5.out); (with_reducible exact HD5.out); intro v6 w6 ho6 hg6; have HB6 := Lib.hid (HE5.out.grown hg6 HE5.out.size (fun g hg => by have := (HO5.out.lt g hg).1; have := HW0S.out; omega)); have HO6 := Lib.hid ho6; have HS6 := Lib.hid (sz_le HB6.out HW0S.out); clear ho6 hg6) | (refine step_appK kindE (B := w3.heap.size + 1) (v := .slice (some ⟨w3.heap.size + 1, 0, none⟩) 0 0) (l := []) (m := L1.take k) rfl _ _ (by rfl) Try.underlying24 (by rfl) (by rfl) ?_ ?_ HLM1.out HLX1.out ?_ ?_; (with_reducible exact HA1.out); (with_reducible exact HTK.out.on HB1.out); (simp); intro v5 w5 ho5 hg5; have HB5 := Lib.hid (HB1.out.grown hg5 (HB1.out.size) (fun g hg => by have := (HA1.out.lt g hg).1; have := HW0S.out; omega)); have HO5 := Lib.hid (ho5.on ((Below.refl _ _).alloc (Nat.le_refl _) (.cells #[.slice x3 n3 c3, .int .i64 a] 44))); have HE5 := Lib.hid (HB5.out.alloc HB5.out.size (.cells #[.slice x3 n3 c3, .int .i64 a] 44)); have HD5 := Lib.hid (show HoldsK encE 2 (w5.alloc (.cells #[.slice x3 n3 c3, .int .i64 a] 44)) (.slice (some ⟨w5.heap.size, 0, none⟩) 1 1) [⟨x3, n3, c3, m, a⟩] from holdsK_one szE 44 w5 ⟨x3, n3, c3, m, a⟩); have HS5 := Lib.hid (Nat.le_trans (sz_le HB5.out HW0S.out) (by simp) : w3.heap.size + 1 ≤ (w5.alloc (.cells #[.slice x3 n3 c3, .int .i64 a] 44)).heap.size); clear ho5 hg5) | (refine step_appK kindE (B := w3.heap.size + 1) (v := .slice (some ⟨w3.heap.size + 1, 0, none⟩) 0 0) (l := []) (m := L1.take k) rfl _ _ (by rfl) Try.underlying24 (by rfl) (by rfl) ?_ ?_ HLM1.out HLX1.out ?_ ?_; (with_reducible exact HA2.out); (with_reducible exact HTK.out.on HB2.out); (simp); intro v5 w5 ho5 hg5; have HB5 := Lib.hid (HB2.out.grown hg5 (HB2.out.size) (fun g hg => by have := (HA2.out.lt g hg).1; have := HW0S.out; omega)); have HO5 := Lib.hid ho5; have HE5 := HB5; have HD5 := Lib.hid (HD2.out.grown hg5 (ne_blk (by omega))); have HS5 := Lib.hid (sz_le HB5.out HW0S.out); clear ho5 hg5) | (refine step_appK kindE (B := w3.heap.size + 1) (v := .slice (some ⟨w3.heap.size + 1 + 1, 0, none⟩) 0 0) (l := []) (m := L1.take k) rfl _ _ (by rfl) Try.underlying24 (by rfl) (by rfl) ?_ ?_ HLM1.out HLX1.out ?_ ?_; (with_reducible exact HA3.out); (with_reducible exact HTK.out.on HB3.out); (simp); intro v5 w5 ho5 hg5; have HB5 := Lib.hid (HB3.out.grown hg5 (HB3.out.size) (fun g hg => by have := (HA3.out.lt g hg).1; have := HW0S.out; omega)); have HO5 := Lib.hid ho5; have HE5 := HB5; have HD5 := Lib.hid (HD3.out.grown hg5 (ne_blk (by omega))); have HS5 := Lib.hid (sz_le HB5.out HW0S.out); clear ho5 hg5))
      all_goals
        have HIE : Hid (insE L1 ⟨x3, n3, c3, m, a⟩ = [] ++ L1.take k ++ [(⟨x3, n3, c3, m, a⟩ : Ent)] ++ L1.drop k) := Lib.hid (by unfold insE; rw [HFI.out]; simp)
        have hbw : Below w.heap.size w w7 := (HB3w.out.trans (HW.out.mono HB3w.out.size)).trans (HB7.out.mono (Nat.le_trans HB3w.out.size HW.out.size))
        have hbx : Below w3.heap.size w3 w7 := HW.out.trans (HB7.out.mono HW.out.size)
        have hto : TabO w.heap.size w7 v7 (insE L1 ⟨x3, n3, c3, m, a⟩) := by
          rw [HIE.out]
          exact TabO.ins (HO3.out.on hbx) (HE3.out.on hbx) HAP.out (HO7.out.mono (Nat.le_trans HB3w.out.size (Nat.le_succ _)))
        have HQ := Lib.hid hto
        have HBQ := Lib.hid hbw
        obtain ⟨x4, n4, c4, rfl, -, -, -⟩ := hto.shapeN
        obtain ⟨L8, hL8⟩ : ∃ L8, L8 = insE L1 ⟨x3, n3, c3, m, a⟩ := ⟨_, rfl⟩
        rw [← hL8] at HQ
        have HS8 : Hid (strip L8 = putRaw (strip L) m a) := Lib.hid (by rw [HRAW.out, hL8, strip_insE, HL1.out])
        clear hbw hbx hto hL8
        generalize (if cv = k then some (⟨g4, 0, none⟩ : Addr) else some ⟨g4, k * 2, none⟩) = xo7
        go_wp2_with fail
        refine (specValidTable _ _ _ ⟨L8, rfl, HQ.out.holds⟩ (by rw [HS8.out]; exact HLQ.out) (by rw [HS8.out]; exact HSM.out)).mono ?_
        rintro e w8 ⟨rfl, hb8⟩
        have HQ8 := Lib.hid (HQ.out.on hb8)
        have HB8 := Lib.hid (HBQ.out.trans (hb8.mono HBQ.out.size))
        clear hb8
        obtain ⟨bv, hbv⟩ : ∃ b, validT (strip L8) = b := ⟨_, rfl⟩
        rw [hbv]
        have HOK : Hid (putOk (strip L) m a = bv) := Lib.hid (by unfold putOk; rw [← HS8.out]; exact hbv)
        clear hbv
        cases bv with
        | true =>
          have HP : Hid (putT (strip L) m a = strip L8) := Lib.hid (by unfold putT; rw [if_pos HOK.out, HS8.out])
          go_wp2_with fail
          go_ret2
          exact ⟨.slice x4 n4 c4, by rw [HOK.out]; rfl, by rw [HP.out]; exact ⟨L8, rfl, HQ8.out⟩, HB8.out⟩
        | false =>
          have HP : Hid (putT (strip L) m a = strip L) := Lib.hid (by unfold putT; rw [if_neg (by rw [HOK.out]; simp)])
          go_wp2_with fail
          refine (l6Copy _ (strip L) _ ⟨L, rfl, HH.out.on HB8.out⟩ (by rw [strip_length]; exact HLL.out) HT.out).mono ?_
          rintro e w9 ⟨v9, rfl, ho9, hb9⟩
          have HO9 := Lib.hid (ho9.mono HB8.out.size)
          have HB9 := Lib.hid (HB8.out.trans (hb9.mono HB8.out.size))
          obtain ⟨x9, n9, c9, rfl, -, -, -⟩ := ho9.shapeN
          clear ho9 hb9
          go_wp2_with fail
          go_ret2
          exact ⟨.slice x9 n9 c9, by rw [HOK.out]; rfl, by rw [HP.out]; exact HO9.out, HB9.out⟩
  · rw [h1]
    have hi1 : i < L1.length := by rw [HLE.out]; rwa [strip_length] at hi
    have HRAW : Hid (putRaw (strip L) m a = (strip L).set i ((nth (strip L) i).1, a)) := Lib.hid (by unfold putRaw; rw [if_pos (by omega), h2])
    have hinv : i < nv := by rw [HNV.out]; exact hi1
    have hB4 := (HO2.out.lt.1 g4 rfl).1
    obtain ⟨-, ⟨k3, k4⟩, -⟩ := HO2.out.cells HNV.out hi1
    obtain ⟨s1, s2⟩ := HO2.out.valued HNV.out hi1 a
    have HQ := Lib.hid s1
    have HBQ := Lib.hid (HB2.out.grown s2 HB2.out.size (fun g hg => by cases hg; exact hB4))
    obtain ⟨L8, hL8⟩ : ∃ L8, L8 = L1.set i ((nth L1 i).setVal a) := ⟨_, rfl⟩
    rw [← hL8] at HQ
    have HS8 : Hid (strip L8 = putRaw (strip L) m a) := Lib.hid (by
      rw [HRAW.out, hL8, strip_set, HL1.out]
      congr 1
      rw [← HL1.out, strip_nth hi1]; rfl)
    clear h1 h2 hi hx2 s1 s2 hL8
    go_wp2_with fail
    refine (specValidTable _ _ _ ⟨L8, rfl, HQ.out.holds⟩ (by rw [HS8.out]; exact HLQ.out) (by rw [HS8.out]; exact HSM.out)).mono ?_
    rintro e w8 ⟨rfl, hb8⟩
    have HQ8 := Lib.hid (HQ.out.on hb8)
    have HB8 := Lib.hid (HBQ.out.trans (hb8.mono HBQ.out.size))
    clear hb8
    obtain ⟨bv, hbv⟩ : ∃ b, validT (strip L8) = b := ⟨_, rfl⟩
    rw [hbv]
    have HOK : Hid (putOk (strip L) m a = bv) := Lib.hid (by unfold putOk; rw [← HS8.out]; exact hbv)
    clear hbv
    cases bv with
    | true =>
      have HP : Hid (putT (strip L) m a = strip L8) := Lib.hid (by unfold putT; rw [if_pos HOK.out, HS8.out])
      go_wp2_with fail
      go_ret2
      refine ⟨.slice (some ⟨g4, 0, none⟩) nv cv, by rw [HOK.out]; rfl, by rw [HP.out]; exact ⟨L8, rfl, HQ8.out⟩, HB8.out⟩
    | false =>
      have HP : Hid (putT (strip L) m a = strip L) := Lib.hid (by unfold putT; rw [if_neg (by rw [HOK.out]; simp)])
      go_wp2_with fail
      refine (l6Copy _ (strip L) _ ⟨L, rfl, HH.out.on HB8.out⟩ (by rw [strip_length]; exact HLL.out) HT.out).mono ?_
      rintro e w9 ⟨v9, rfl, ho9, hb9⟩
      have HO9 := Lib.hid (ho9.mono HB8.out.size)
      have HB9 := Lib.hid (HB8.out.trans (hb9.mono HB8.out.size))
      obtain ⟨x9, n9, c9, rfl, -, -, -⟩ := ho9.shapeN
      clear ho9 hb9
      go_wp2_with fail
      go_ret2
      exact ⟨.slice x9 n9 c9, by rw [HOK.out]; rfl, by rw [HP.out]; exact HO9.out, HB9.out⟩

end Go.Proofs.Ytihcebjbkifbpaa.Row
