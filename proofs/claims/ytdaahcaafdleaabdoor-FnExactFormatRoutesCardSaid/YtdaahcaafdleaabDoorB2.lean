/- Contracts and mathematics, joined: RouteT0, RouteT, Open. No conditions but those that each states. -/
import Derived.WalkKit
import Derived.Deep.RegionHeld3
import Derived.Deep.RegionLaw
import Derived.Test.YtdaahcaafdleaabDoorB1
import Derived.SizedLaws
import Derived.ChangeSlices
import Derived.Lib.SmallJoins
/- FormatRoutes, model and program. No conditions but that lengths fit, that numbers are numbers, and the library's table. -/
namespace Go.Proofs.YtdaahcaafdleaabDoor.Row
open Go.ChangeShapes Go.WideShapes Go.ChangeAt Go.RowKit Go.Instr
set_option linter.unusedVariables false
set_option maxRecDepth 100000
def jR (l : List ByteArray) : Nat → ByteArray
  | 0 => mk []
  | k + 1 => (if k = 0 then jR l k else jR l k ++ mk [32]) ++ nth l k
theorem jR_step {l : List ByteArray} {k : Nat} (h : k ≠ 0) : jR l (k + 1) = jR l k ++ mk [32] ++ nth l k := by
  rw [show jR l (k + 1) = (if k = 0 then jR l k else jR l k ++ mk [32]) ++ nth l k from rfl, if_neg h]
theorem mk_nil_appR (a : ByteArray) : mk [] ++ a = a := by
  rw [← mk_bl a, mk_append]; rfl
theorem jR_join (x : ByteArray) (r : List ByteArray) : ∀ k, k ≤ r.length → jR (x :: r) (k + 1) = mk (bl x ++ Lib.joinTail [32] ((r.map bl).take k))
  | 0, _ => by
    unfold jR
    rw [if_pos rfl]
    unfold jR
    rw [mk_nil_appR, show nth (x :: r) 0 = x from rfl]
    simp [Lib.joinTail, mk_bl]
  | k + 1, h => by
    have ih := jR_join x r k (by omega)
    unfold jR
    rw [if_neg (by omega), ih, Lib.joinTail_take_succ [32] _ k (bl (nth r k)) (by rw [List.getElem?_map, nth_eq (by omega), List.getElem?_eq_getElem (by omega)]; rfl)]
    rw [show nth (x :: r) (k + 1) = nth r k by simp [nth]]
    conv => lhs; rw [← mk_bl (nth r k)]
    rw [mk_append, mk_append]
    simp [List.append_assoc]
theorem jR_all {l : List ByteArray} (h : l ≠ []) : jR l l.length = mk (Lib.join (l.map bl) [32]) := by
  obtain ⟨x, r, rfl⟩ : ∃ x r, l = x :: r := by
    cases l with
    | nil => exact absurd rfl h
    | cons x r => exact ⟨x, r, rfl⟩
  rw [List.length_cons, jR_join x r r.length (Nat.le_refl _), List.take_of_length_le (by simp), List.map_cons, Lib.join_cons]
theorem fmtS_szR (l : List ByteArray) : (fmtS l).size ≤ bulk l + 1 := by
  by_cases h : l = []
  · subst h; rw [fmtS_nil, mk_size]; simp
  · rw [← fT_all h]
    have := fT_le l (Nat.le_refl l.length)
    omega
theorem ret_strR {a b : ByteArray} (h : a = b) : Ending.returned (.string a) = .returned (.string b) := by rw [h]
abbrev itS (n : Int) : ByteArray := Text.str (Lib.itoa n)
def txR (x : Rtt) : ByteArray := (((fmtS x.1 ++ mk [62]) ++ itS x.2.1) ++ mk [58]) ++ itS x.2.2
def fmtRts (l : List Rtt) : ByteArray := if l.length = 0 then mk [45] else jR (l.map txR) l.length
def wfR (x : Rtt) : Prop := (Lit.int .i64 x.2.1).wf = true ∧ (Lit.int .i64 x.2.2).wf = true
theorem txR_size {x : Rtt} (h : wfR x) : (txR x).size ≤ wtRt x + 45 := by
  have h1 := fmtS_szR x.1
  have h2 := Text.itoa_size x.2.1 h.1
  have h3 := Text.itoa_size x.2.2 h.2
  have h4 : wtRt x = bulk x.1 := rfl
  unfold txR
  simp only [ByteArray.size_append, mk_size, List.length_singleton]
  show _ + (Text.str (Lib.itoa x.2.1)).size + 1 + (Text.str (Lib.itoa x.2.2)).size ≤ _
  omega
theorem jR_le {l : List Rtt} (hw : ∀ x ∈ l, wfR x) : ∀ k, k ≤ l.length → (jR (l.map txR) k).size ≤ ((l.take k).map (fun x => wtRt x + 46)).sum
  | 0, _ => by unfold jR; rw [mk_size]; simp
  | k + 1, h => by
    have ih := jR_le hw k (by omega)
    have h1 := txR_size (hw (nth l k) (nth_mem (by omega)))
    rw [take_nx (by omega), List.map_append, List.sum_append]
    have h2 : nth (l.map txR) k = txR (nth l k) := nth_map _ (by omega)
    unfold jR
    rw [ByteArray.size_append, h2]
    simp only [List.map_cons, List.map_nil, List.sum_cons, List.sum_nil]
    split
    · omega
    · rw [ByteArray.size_append, mk_size]; simp only [List.length_singleton]; omega
theorem sumR (l : List Rtt) : ∀ k, ((l.take k).map (fun x => wtRt x + 46)).sum ≤ (l.map (fun x => wtRt x)).sum + 46 * l.length := fun k => by
  have h1 : ∀ m : List Rtt, (m.map (fun x => wtRt x + 46)).sum = (m.map (fun x => wtRt x)).sum + 46 * m.length := fun m => by
    induction m with
    | nil => rfl
    | cons a r ih => simp only [List.map_cons, List.sum_cons, List.length_cons, ih]; omega
  rw [h1]
  have h2 : ((l.take k).map (fun x => wtRt x)).sum ≤ (l.map (fun x => wtRt x)).sum := by
    conv => rhs; rw [← List.take_append_drop k l]
    rw [List.map_append, List.sum_append]; omega
  have h3 : (l.take k).length ≤ l.length := by rw [List.length_take]; omega
  omega
theorem jR_fit {l : List Rtt} (hw : ∀ x ∈ l, wfR x) (hf : FitRt l) {k : Nat} (h : k ≤ l.length) : (jR (l.map txR) k).size ≤ 60000000 := by
  have h1 := jR_le hw k h
  have h2 := sumR l k
  have h3 : bulkK wtRt l = l.length + (l.map wtRt).sum := by unfold bulkK bulkKTo; rw [List.take_length]
  unfold FitRt at hf
  have h4 : (l.map (fun x => wtRt x)).sum = (l.map wtRt).sum := rfl
  omega
theorem sFmtN {V : Value} {m : List ByteArray} {w : World} (h : kN.At w V m) (hm : bulk m ≤ 9000000) : Calls Tryd.prog 10 #[V] w fun e w' => e = .returned (.string (fmtS m)) ∧ Below w.heap.size w w' := by
  obtain ⟨v, rfl, h9⟩ := kN_at h
  exact specFormatName v m w h9 (by omega)
theorem iFmtN {V : Value} {m : List ByteArray} {w : World} (h : kN.At w V m) (hm : bulk m ≤ 9000000) : Calls Tryd.prog 13 #[V] w fun e w' => e = .returned (.string (fmtS m)) ∧ Below w.heap.size w w' := by
  obtain ⟨v, rfl, h9⟩ := kN_at h
  exact implFormatName v m w h9 (by omega)
def encS (s : ByteArray) : List Value := [Value.string s]
theorem szS14 : Sz encS 1 := fun _ => rfl
theorem kindS14 : Kind Tryd.prog 9 encS (.string ByteArray.empty) 1 16 where
  elem := by unfold ElemK; kernel_rfl
  zs := rfl
  pos := by decide
  size := szS14
  one := fun m u hu => by simp [encS] at hu; subst hu; rfl
theorem flatS14 : ∀ l : List ByteArray, flat encS l = l.map Value.string
  | [] => rfl
  | x :: r => by
    show flat encS ([x] ++ r) = _
    rw [flat_append, flat_one, flatS14 r]
    rfl
theorem ownS_of {B : Nat} {w : World} {v : Value} {l : List ByteArray} (h : OwnK 9 encS 1 B w v l) : Own 9 Value.string B w v l := by
  unfold OwnK at h
  rw [flatS14] at h
  exact h
set_option maxRecDepth 100000 in
set_option maxHeartbeats 4000000 in
theorem rfs {Q : Exit → Act → World → Prop} {v1 v2 v5 v6 v7 v8 v9 v10 v11 v12 v13 v14 v15 v16 v17 v18 v19 v20 v21 v22 v23 v24 v25 v26 v27 v28 v29 v30 v31 v32 v33 v34 v35 v36 v37 v38 v39 v40 v41 v42 : Value} {w : World} {b off n c k na ca : Nat} {xa : Option Addr} {nm : List ByteArray} {rf rc : Int} {s t1 f1 c1 : ByteArray} (hk : k < n) (hkc : k ≤ c) (hn : n ≤ 9000000) (HT1 : Hid (fmtS nm = t1)) (HF1 : Hid (itS rf = f1)) (HC1 : Hid (itS rc = c1)) (HW1 : Hid ((Lit.int .i64 rf).wf = true)) (HW2 : Hid ((Lit.int .i64 rc).wf = true)) (H_n : Hid (kN.At w (.agg #[.slice xa na ca]) nm)) (HNB : Hid (bulk nm ≤ 1200000)) (hz0 : ¬ 9223372036854775807 < s.size + t1.size) (hz1 : ¬ 9223372036854775807 < s.size + t1.size + 1) (hz2 : ¬ 9223372036854775807 < s.size + t1.size + 1 + f1.size) (hz3 : ¬ 9223372036854775807 < s.size + t1.size + 1 + f1.size + 1) (hz4 : ¬ 9223372036854775807 < s.size + t1.size + 1 + f1.size + 1 + c1.size) (K0 : Hid (w.cell? ⟨b, off + k * 3, none⟩ = some (.slice xa na ca))) (K1 : Hid (w.cell? ⟨b, off + k * 3 + 1, none⟩ = some (.int .i64 rf))) (K2 : Hid (w.cell? ⟨b, off + k * 3 + 2, none⟩ = some (.int .i64 rc)))
  (hQ : ∀ (u15 u16 u17 u18 u19 u20 u21 u22 u23 u24 u25 u26 u27 u28 u29 u30 u31 u32 u33 u34 u35 u36 u37 u38 : Value)  (wx : World), Below w.heap.size w wx → Q .normal ⟨#[.slice (some ⟨b, off, none⟩) n c, v1, v2, .string (s ++ t1 ++ mk [62] ++ f1 ++ mk [58] ++ c1), .int .i64 k, v5, v6, v7, v8, v9, v10, v11, v12, v13, v14, u15, u16, u17, u18, u19, u20, u21, u22, u23, u24, u25, u26, u27, u28, u29, u30, u31, u32, u33, u34, u35, u36, u37, u38, v39, v40, v41, v42], []⟩ wx) :
  (Code.region 7 #[⟨some 15, .move (.tmp 3), 9, "l14_route.go:101", #[], none⟩,
   ⟨some 16, .move (.tmp 0), 25, "l14_route.go:101", #[], none⟩,
   ⟨some 17, .move (.tmp 4), 3, "l14_route.go:101", #[], none⟩,
   ⟨some 18, .indexAddr 25 (.tmp 16) (.tmp 17), 0, "l14_route.go:101", #[⟨1, .data⟩, ⟨2, .data⟩], none⟩,
   ⟨some 19, .fieldAddr 38 (.tmp 18) 0, 0, "l14_route.go:101", #[⟨3, .data⟩], none⟩,
   ⟨some 20, .load 36 (.tmp 19), 36, "l14_route.go:101", #[⟨4, .data⟩], none⟩,
   ⟨some 21, .call ⟨.value (.func 10), #[.tmp 20], #[36]⟩, 9, "l14_route.go:101", #[⟨5, .data⟩], none⟩,
   ⟨some 22, .binOp BinOp.add 9 (.tmp 15) (.tmp 21) 9, 9, "l14_route.go:101", #[⟨0, .data⟩, ⟨6, .data⟩], none⟩,
   ⟨some 23, .binOp BinOp.add 9 (.tmp 22) (.const (Value.string { data := #[62] })) 9, 9, "l14_route.go:101", #[⟨7, .data⟩], none⟩,
   ⟨some 24, .move (.tmp 0), 25, "l14_route.go:101", #[], none⟩,
   ⟨some 25, .move (.tmp 4), 3, "l14_route.go:101", #[], none⟩,
   ⟨some 26, .indexAddr 25 (.tmp 24) (.tmp 25), 0, "l14_route.go:101", #[⟨9, .data⟩, ⟨10, .data⟩], none⟩,
   ⟨some 27, .fieldAddr 38 (.tmp 26) 1, 0, "l14_route.go:101", #[⟨11, .data⟩], none⟩,
   ⟨some 28, .load 3 (.tmp 27), 3, "l14_route.go:101", #[⟨12, .data⟩], none⟩,
   ⟨some 29, .call ⟨.value (.func 11), #[.tmp 28], #[3]⟩, 9, "l14_route.go:101", #[⟨13, .data⟩, ⟨6, .chain⟩], none⟩,
   ⟨some 30, .binOp BinOp.add 9 (.tmp 23) (.tmp 29) 9, 9, "l14_route.go:101", #[⟨8, .data⟩, ⟨14, .data⟩], none⟩,
   ⟨some 31, .binOp BinOp.add 9 (.tmp 30) (.const (Value.string { data := #[58] })) 9, 9, "l14_route.go:101", #[⟨15, .data⟩], none⟩,
   ⟨some 32, .move (.tmp 0), 25, "l14_route.go:101", #[], none⟩,
   ⟨some 33, .move (.tmp 4), 3, "l14_route.go:101", #[], none⟩,
   ⟨some 34, .indexAddr 25 (.tmp 32) (.tmp 33), 0, "l14_route.go:101", #[⟨17, .data⟩, ⟨18, .data⟩], none⟩,
   ⟨some 35, .fieldAddr 38 (.tmp 34) 2, 0, "l14_route.go:101", #[⟨19, .data⟩], none⟩,
   ⟨some 36, .load 3 (.tmp 35), 3, "l14_route.go:101", #[⟨20, .data⟩], none⟩,
   ⟨some 37, .call ⟨.value (.func 11), #[.tmp 36], #[3]⟩, 9, "l14_route.go:101", #[⟨21, .data⟩, ⟨14, .chain⟩], none⟩,
   ⟨some 38, .binOp BinOp.add 9 (.tmp 31) (.tmp 37) 9, 9, "l14_route.go:101", #[⟨16, .data⟩, ⟨22, .data⟩], none⟩,
   ⟨some 3, .assign (.tmp 38), 9, "l14_route.go:101", #[⟨23, .data⟩, ⟨22, .chain⟩, ⟨0, .phase⟩, ⟨1, .phase⟩, ⟨2, .phase⟩, ⟨3, .phase⟩, ⟨4, .phase⟩, ⟨5, .phase⟩, ⟨6, .phase⟩, ⟨7, .phase⟩, ⟨8, .phase⟩, ⟨9, .phase⟩, ⟨10, .phase⟩, ⟨11, .phase⟩, ⟨12, .phase⟩, ⟨13, .phase⟩, ⟨14, .phase⟩, ⟨15, .phase⟩, ⟨16, .phase⟩, ⟨17, .phase⟩, ⟨18, .phase⟩, ⟨19, .phase⟩, ⟨20, .phase⟩, ⟨21, .phase⟩, ⟨22, .phase⟩, ⟨23, .phase⟩], none⟩] true).wp Tryd.prog Q ⟨#[.slice (some ⟨b, off, none⟩) n c, v1, v2, .string s, .int .i64 k, v5, v6, v7, v8, v9, v10, v11, v12, v13, v14, v15, v16, v17, v18, v19, v20, v21, v22, v23, v24, v25, v26, v27, v28, v29, v30, v31, v32, v33, v34, v35, v36, v37, v38, v39, v40, v41, v42], []⟩ w := by
 have HQ := Lib.hid hQ; clear hQ
 have hdr : Below w.heap.size w w.drew := (Below.refl _ _).drew
 have BB := Lib.hid hdr
 refine wp_region_noPanic ?_
 refine wp_region_held_drew (S := (fun w' => w'.cell? ⟨b, off + k * 3, none⟩ = some (.slice xa na ca) ∧ w'.cell? ⟨b, off + k * 3 + 1, none⟩ = some (.int .i64 rf) ∧ w'.cell? ⟨b, off + k * 3 + 2, none⟩ = some (.int .i64 rc))) (by kernel_rfl) ?_ (fun hHeld => ?_)
 ·
  exact ⟨kc K0.out BB.out, kc K1.out BB.out, kc K2.out BB.out⟩
 clear hdr
 generalize w.drew = wd at *
 refine wpAnyH_take (i := 0) (oi := ⟨some 15, .move (.tmp 3), 9, "l14_route.go:101", #[], none⟩) (v := ?_) rfl (by kernel_rfl) (by kernel_rfl) (by kernel_rfl) (fun _ _ _ h => h) (Or.inl ⟨by rfl, ?_⟩) (by assumption) ?_
 rotate_left
 ·
  intro w' hSw; (try dsimp only at hSw); first | (go_simp; done) | (go_simp; with_reducible rfl)
 (try simp only [Act.put, Row.pB0, Row.pB1, Row.pB2])
 refine wpAnyH_take (i := 1) (oi := ⟨some 16, .move (.tmp 0), 25, "l14_route.go:101", #[], none⟩) (v := ?_) rfl (by kernel_rfl) (by kernel_rfl) (by kernel_rfl) (fun _ _ _ h => h) (Or.inl ⟨by rfl, ?_⟩) (by assumption) ?_
 rotate_left
 ·
  intro w' hSw; (try dsimp only at hSw); first | (go_simp; done) | (go_simp; with_reducible rfl)
 (try simp only [Act.put, Row.pB0, Row.pB1, Row.pB2])
 refine wpAnyH_take (i := 2) (oi := ⟨some 17, .move (.tmp 4), 3, "l14_route.go:101", #[], none⟩) (v := ?_) rfl (by kernel_rfl) (by kernel_rfl) (by kernel_rfl) (fun _ _ _ h => h) (Or.inl ⟨by rfl, ?_⟩) (by assumption) ?_
 rotate_left
 ·
  intro w' hSw; (try dsimp only at hSw); first | (go_simp; done) | (go_simp; with_reducible rfl)
 (try simp only [Act.put, Row.pB0, Row.pB1, Row.pB2])
 refine wpAnyH_take (i := 3) (oi := ⟨some 18, .indexAddr 25 (.tmp 16) (.tmp 17), 0, "l14_route.go:101", #[⟨1, .data⟩, ⟨2, .data⟩], none⟩) (v := ?_) rfl (by kernel_rfl) (by kernel_rfl) (by kernel_rfl) (fun _ _ _ h => h) (Or.inl ⟨by rfl, ?_⟩) (by assumption) ?_
 rotate_left
 ·
  intro w' hSw; (try dsimp only at hSw); first | (go_simp; done) | (go_simp; with_reducible rfl)
 (try simp only [Act.put, Row.pB0, Row.pB1, Row.pB2])
 refine wpAnyH_take (i := 4) (oi := ⟨some 19, .fieldAddr 38 (.tmp 18) 0, 0, "l14_route.go:101", #[⟨3, .data⟩], none⟩) (v := ?_) rfl (by kernel_rfl) (by kernel_rfl) (by kernel_rfl) (fun _ _ _ h => h) (Or.inl ⟨by rfl, ?_⟩) (by assumption) ?_
 rotate_left
 ·
  intro w' hSw; (try dsimp only at hSw); first | (go_simp; done) | (go_simp; with_reducible rfl)
 (try simp only [Act.put, Row.pB0, Row.pB1, Row.pB2])
 refine wpAnyH_take (i := 5) (oi := ⟨some 20, .load 36 (.tmp 19), 36, "l14_route.go:101", #[⟨4, .data⟩], none⟩) (v := ?_) rfl (by kernel_rfl) (by kernel_rfl) (by kernel_rfl) (fun _ _ _ h => h) (Or.inl ⟨by rfl, ?_⟩) (by assumption) ?_
 rotate_left
 ·
  intro w' hSw; (try dsimp only at hSw); first | (go_simp; done) | (go_simp; with_reducible rfl)
 (try simp only [Act.put, Row.pB0, Row.pB1, Row.pB2])
 refine wpAnyH_take (i := 9) (oi := ⟨some 24, .move (.tmp 0), 25, "l14_route.go:101", #[], none⟩) (v := ?_) rfl (by kernel_rfl) (by kernel_rfl) (by kernel_rfl) (fun _ _ _ h => h) (Or.inl ⟨by rfl, ?_⟩) (by assumption) ?_
 rotate_left
 ·
  intro w' hSw; (try dsimp only at hSw); first | (go_simp; done) | (go_simp; with_reducible rfl)
 (try simp only [Act.put, Row.pB0, Row.pB1, Row.pB2])
 refine wpAnyH_take (i := 10) (oi := ⟨some 25, .move (.tmp 4), 3, "l14_route.go:101", #[], none⟩) (v := ?_) rfl (by kernel_rfl) (by kernel_rfl) (by kernel_rfl) (fun _ _ _ h => h) (Or.inl ⟨by rfl, ?_⟩) (by assumption) ?_
 rotate_left
 ·
  intro w' hSw; (try dsimp only at hSw); first | (go_simp; done) | (go_simp; with_reducible rfl)
 (try simp only [Act.put, Row.pB0, Row.pB1, Row.pB2])
 refine wpAnyH_take (i := 11) (oi := ⟨some 26, .indexAddr 25 (.tmp 24) (.tmp 25), 0, "l14_route.go:101", #[⟨9, .data⟩, ⟨10, .data⟩], none⟩) (v := ?_) rfl (by kernel_rfl) (by kernel_rfl) (by kernel_rfl) (fun _ _ _ h => h) (Or.inl ⟨by rfl, ?_⟩) (by assumption) ?_
 rotate_left
 ·
  intro w' hSw; (try dsimp only at hSw); first | (go_simp; done) | (go_simp; with_reducible rfl)
 (try simp only [Act.put, Row.pB0, Row.pB1, Row.pB2])
 refine wpAnyH_take (i := 12) (oi := ⟨some 27, .fieldAddr 38 (.tmp 26) 1, 0, "l14_route.go:101", #[⟨11, .data⟩], none⟩) (v := ?_) rfl (by kernel_rfl) (by kernel_rfl) (by kernel_rfl) (fun _ _ _ h => h) (Or.inl ⟨by rfl, ?_⟩) (by assumption) ?_
 rotate_left
 ·
  intro w' hSw; (try dsimp only at hSw); first | (go_simp; done) | (go_simp; with_reducible rfl)
 (try simp only [Act.put, Row.pB0, Row.pB1, Row.pB2])
 refine wpAnyH_take (i := 13) (oi := ⟨some 28, .load 3 (.tmp 27), 3, "l14_route.go:101", #[⟨12, .data⟩], none⟩) (v := ?_) rfl (by kernel_rfl) (by kernel_rfl) (by kernel_rfl) (fun _ _ _ h => h) (Or.inl ⟨by rfl, ?_⟩) (by assumption) ?_
 rotate_left
 ·
  intro w' hSw; (try dsimp only at hSw); first | (go_simp; done) | (go_simp; with_reducible rfl)
 (try simp only [Act.put, Row.pB0, Row.pB1, Row.pB2])
 refine wpAnyH_take (i := 17) (oi := ⟨some 32, .move (.tmp 0), 25, "l14_route.go:101", #[], none⟩) (v := ?_) rfl (by kernel_rfl) (by kernel_rfl) (by kernel_rfl) (fun _ _ _ h => h) (Or.inl ⟨by rfl, ?_⟩) (by assumption) ?_
 rotate_left
 ·
  intro w' hSw; (try dsimp only at hSw); first | (go_simp; done) | (go_simp; with_reducible rfl)
 (try simp only [Act.put, Row.pB0, Row.pB1, Row.pB2])
 refine wpAnyH_take (i := 18) (oi := ⟨some 33, .move (.tmp 4), 3, "l14_route.go:101", #[], none⟩) (v := ?_) rfl (by kernel_rfl) (by kernel_rfl) (by kernel_rfl) (fun _ _ _ h => h) (Or.inl ⟨by rfl, ?_⟩) (by assumption) ?_
 rotate_left
 ·
  intro w' hSw; (try dsimp only at hSw); first | (go_simp; done) | (go_simp; with_reducible rfl)
 (try simp only [Act.put, Row.pB0, Row.pB1, Row.pB2])
 refine wpAnyH_take (i := 19) (oi := ⟨some 34, .indexAddr 25 (.tmp 32) (.tmp 33), 0, "l14_route.go:101", #[⟨17, .data⟩, ⟨18, .data⟩], none⟩) (v := ?_) rfl (by kernel_rfl) (by kernel_rfl) (by kernel_rfl) (fun _ _ _ h => h) (Or.inl ⟨by rfl, ?_⟩) (by assumption) ?_
 rotate_left
 ·
  intro w' hSw; (try dsimp only at hSw); first | (go_simp; done) | (go_simp; with_reducible rfl)
 (try simp only [Act.put, Row.pB0, Row.pB1, Row.pB2])
 refine wpAnyH_take (i := 20) (oi := ⟨some 35, .fieldAddr 38 (.tmp 34) 2, 0, "l14_route.go:101", #[⟨19, .data⟩], none⟩) (v := ?_) rfl (by kernel_rfl) (by kernel_rfl) (by kernel_rfl) (fun _ _ _ h => h) (Or.inl ⟨by rfl, ?_⟩) (by assumption) ?_
 rotate_left
 ·
  intro w' hSw; (try dsimp only at hSw); first | (go_simp; done) | (go_simp; with_reducible rfl)
 (try simp only [Act.put, Row.pB0, Row.pB1, Row.pB2])
 refine wpAnyH_take (i := 21) (oi := ⟨some 36, .load 3 (.tmp 35), 3, "l14_route.go:101", #[⟨20, .data⟩], none⟩) (v := ?_) rfl (by kernel_rfl) (by kernel_rfl) (by kernel_rfl) (fun _ _ _ h => h) (Or.inl ⟨by rfl, ?_⟩) (by assumption) ?_
 rotate_left
 ·
  intro w' hSw; (try dsimp only at hSw); first | (go_simp; done) | (go_simp; with_reducible rfl)
 (try simp only [Act.put, Row.pB0, Row.pB1, Row.pB2])
 refine wpAnyH_ready (rs := [6]) (by kernel_rfl) (by simp) ?_
 refine AllReadyH.cons (o := ⟨some 21, .call ⟨.value (.func 10), #[.tmp 20], #[36]⟩, 9, "l14_route.go:101", #[⟨5, .data⟩], none⟩) rfl (fun K hK => ?_) AllReadyH.nil
 go_simp
 refine (sFmtN (H_n.out.on BB.out) (Nat.le_trans HNB.out (by decide))).mono ?_
 rintro e wn1 ⟨rfl, hb⟩
 rw [HT1.out]
 replace BB := Lib.hid (BB.out.trans (hb.mono BB.out.size))
 clear hb
 (try go_wp2_with fail)
 clear hHeld
 refine hK.out _ _ ?_ (fun hHeld => ?_)
 ·
  (try dsimp only); exact ⟨kc K0.out BB.out, kc K1.out BB.out, kc K2.out BB.out⟩
 clear hK K
 (try simp only [Act.put, Row.pB0, Row.pB1, Row.pB2])
 refine wpAnyH_take (i := 7) (oi := ⟨some 22, .binOp BinOp.add 9 (.tmp 15) (.tmp 21) 9, 9, "l14_route.go:101", #[⟨0, .data⟩, ⟨6, .data⟩], none⟩) (v := ?_) rfl (by kernel_rfl) (by kernel_rfl) (by kernel_rfl) (fun _ _ _ h => h) (Or.inl ⟨by rfl, ?_⟩) (by assumption) ?_
 rotate_left
 ·
  intro w' hSw; (try dsimp only at hSw); first | (go_simp; done) | (go_simp; with_reducible rfl)
 (try simp only [Act.put, Row.pB0, Row.pB1, Row.pB2])
 refine wpAnyH_take (i := 8) (oi := ⟨some 23, .binOp BinOp.add 9 (.tmp 22) (.const (Value.string { data := #[62] })) 9, 9, "l14_route.go:101", #[⟨7, .data⟩], none⟩) (v := ?_) rfl (by kernel_rfl) (by kernel_rfl) (by kernel_rfl) (fun _ _ _ h => h) (Or.inl ⟨by rfl, ?_⟩) (by assumption) ?_
 rotate_left
 ·
  intro w' hSw; (try dsimp only at hSw); first | (go_simp; done) | (go_simp; with_reducible rfl)
 (try simp only [Act.put, Row.pB0, Row.pB1, Row.pB2])
 refine wpAnyH_ready (rs := [14]) (by kernel_rfl) (by simp) ?_
 refine AllReadyH.cons (o := ⟨some 29, .call ⟨.value (.func 11), #[.tmp 28], #[3]⟩, 9, "l14_route.go:101", #[⟨13, .data⟩, ⟨6, .chain⟩], none⟩) rfl (fun K hK => ?_) AllReadyH.nil
 go_simp
 refine (Text.specFormat rf _ HW1.out).mono ?_
 rintro e wn2 ⟨rfl, hb⟩
 rw [show Text.str (Lib.itoa rf) = _ from HF1.out]
 replace BB := Lib.hid (BB.out.trans (hb.mono BB.out.size))
 clear hb
 (try go_wp2_with fail)
 clear hHeld
 refine hK.out _ _ ?_ (fun hHeld => ?_)
 ·
  (try dsimp only); exact ⟨kc K0.out BB.out, kc K1.out BB.out, kc K2.out BB.out⟩
 clear hK K
 (try simp only [Act.put, Row.pB0, Row.pB1, Row.pB2])
 refine wpAnyH_take (i := 15) (oi := ⟨some 30, .binOp BinOp.add 9 (.tmp 23) (.tmp 29) 9, 9, "l14_route.go:101", #[⟨8, .data⟩, ⟨14, .data⟩], none⟩) (v := ?_) rfl (by kernel_rfl) (by kernel_rfl) (by kernel_rfl) (fun _ _ _ h => h) (Or.inl ⟨by rfl, ?_⟩) (by assumption) ?_
 rotate_left
 ·
  intro w' hSw; (try dsimp only at hSw); first | (go_simp; done) | (go_simp; with_reducible rfl)
 (try simp only [Act.put, Row.pB0, Row.pB1, Row.pB2])
 refine wpAnyH_take (i := 16) (oi := ⟨some 31, .binOp BinOp.add 9 (.tmp 30) (.const (Value.string { data := #[58] })) 9, 9, "l14_route.go:101", #[⟨15, .data⟩], none⟩) (v := ?_) rfl (by kernel_rfl) (by kernel_rfl) (by kernel_rfl) (fun _ _ _ h => h) (Or.inl ⟨by rfl, ?_⟩) (by assumption) ?_
 rotate_left
 ·
  intro w' hSw; (try dsimp only at hSw); first | (go_simp; done) | (go_simp; with_reducible rfl)
 (try simp only [Act.put, Row.pB0, Row.pB1, Row.pB2])
 refine wpAnyH_ready (rs := [22]) (by kernel_rfl) (by simp) ?_
 refine AllReadyH.cons (o := ⟨some 37, .call ⟨.value (.func 11), #[.tmp 36], #[3]⟩, 9, "l14_route.go:101", #[⟨21, .data⟩, ⟨14, .chain⟩], none⟩) rfl (fun K hK => ?_) AllReadyH.nil
 go_simp
 refine (Text.specFormat rc _ HW2.out).mono ?_
 rintro e wn3 ⟨rfl, hb⟩
 rw [show Text.str (Lib.itoa rc) = _ from HC1.out]
 replace BB := Lib.hid (BB.out.trans (hb.mono BB.out.size))
 clear hb
 (try go_wp2_with fail)
 clear hHeld
 refine hK.out _ _ ?_ (fun hHeld => ?_)
 ·
  (try dsimp only); exact ⟨kc K0.out BB.out, kc K1.out BB.out, kc K2.out BB.out⟩
 clear hK K
 (try simp only [Act.put, Row.pB0, Row.pB1, Row.pB2])
 refine wpAnyH_take (i := 23) (oi := ⟨some 38, .binOp BinOp.add 9 (.tmp 31) (.tmp 37) 9, 9, "l14_route.go:101", #[⟨16, .data⟩, ⟨22, .data⟩], none⟩) (v := ?_) rfl (by kernel_rfl) (by kernel_rfl) (by kernel_rfl) (fun _ _ _ h => h) (Or.inl ⟨by rfl, ?_⟩) (by assumption) ?_
 rotate_left
 ·
  intro w' hSw; (try dsimp only at hSw); first | (go_simp; done) | (go_simp; with_reducible rfl)
 (try simp only [Act.put, Row.pB0, Row.pB1, Row.pB2])
 refine wpAnyH_take (i := 24) (oi := ⟨some 3, .assign (.tmp 38), 9, "l14_route.go:101", #[⟨23, .data⟩, ⟨22, .chain⟩, ⟨0, .phase⟩, ⟨1, .phase⟩, ⟨2, .phase⟩, ⟨3, .phase⟩, ⟨4, .phase⟩, ⟨5, .phase⟩, ⟨6, .phase⟩, ⟨7, .phase⟩, ⟨8, .phase⟩, ⟨9, .phase⟩, ⟨10, .phase⟩, ⟨11, .phase⟩, ⟨12, .phase⟩, ⟨13, .phase⟩, ⟨14, .phase⟩, ⟨15, .phase⟩, ⟨16, .phase⟩, ⟨17, .phase⟩, ⟨18, .phase⟩, ⟨19, .phase⟩, ⟨20, .phase⟩, ⟨21, .phase⟩, ⟨22, .phase⟩, ⟨23, .phase⟩], none⟩) (v := ?_) rfl (by kernel_rfl) (by kernel_rfl) (by kernel_rfl) (fun _ _ _ h => h) (Or.inl ⟨by rfl, ?_⟩) (by assumption) ?_
 rotate_left
 ·
  intro w' hSw; (try dsimp only at hSw); first | (go_simp; done) | (go_simp; with_reducible rfl)
 (try simp only [Act.put, Row.pB0, Row.pB1, Row.pB2])
 refine wpAnyH_done (by kernel_rfl) ?_ _
 exact NoPanic.normal (HQ.out _ _ _ _ _ _ _ _ _ _ _ _ _ _ _ _ _ _ _ _ _ _ _ _  _  BB.out)
set_option maxRecDepth 100000 in
set_option maxHeartbeats 4000000 in
theorem rfi {Q : Exit → Act → World → Prop} {v0 v1 v2 v4 v6 v7 v8 v9 v10 v11 v12 v13 v14 v15 v16 v17 v18 v19 v20 v21 v22 v23 v24 v25 v26 v27 v28 v29 v30 v31 v32 v33 v34 v35 v36 : Value} {w : World} {p na ca : Nat} {xa : Option Addr} {nm : List ByteArray} {rf rc : Int} {t1 f1 c1 : ByteArray} {B nu cu : Nat} {xu : Option Addr} {Lu : List ByteArray} (HBW : Hid (B ≤ w.heap.size)) (HLM : Hid (Lu.length ≤ 1100000)) (HOL : Hid (OwnK 9 encS 1 B w (.slice xu nu cu) Lu)) (HTB : Hid (Text.Tab w)) (HPR : Hid (some p ≠ (Value.slice xu nu cu).ownBlock)) (HT1 : Hid (fmtS nm = t1)) (HF1 : Hid (itS rf = f1)) (HC1 : Hid (itS rc = c1)) (HW1 : Hid ((Lit.int .i64 rf).wf = true)) (HW2 : Hid ((Lit.int .i64 rc).wf = true)) (H_n : Hid (kN.At w (.agg #[.slice xa na ca]) nm)) (HNB : Hid (bulk nm ≤ 1200000)) (hz0 : ¬ 9223372036854775807 < t1.size + 1) (hz1 : ¬ 9223372036854775807 < t1.size + 1 + f1.size) (hz2 : ¬ 9223372036854775807 < t1.size + 1 + f1.size + 1) (hz3 : ¬ 9223372036854775807 < t1.size + 1 + f1.size + 1 + c1.size) (K0 : Hid (w.cell? ⟨p, 0, none⟩ = some (.slice xa na ca))) (K1 : Hid (w.cell? ⟨p, 1, none⟩ = some (.int .i64 rf))) (K2 : Hid (w.cell? ⟨p, 2, none⟩ = some (.int .i64 rc)))
  (hQ : ∀ (u18 u19 u20 u21 u22 u23 u24 u25 u26 u27 u28 u29 u30 u31 u32 u33 : Value) (x4 : Option Addr) (n4 c4 : Nat)  (wx : World), Hid (OwnK 9 encS 1 B wx (.slice x4 n4 c4) (Lu ++ [t1 ++ mk [62] ++ f1 ++ mk [58] ++ c1])) → Below B w wx → Q .normal ⟨#[v0, v1, v2, .slice x4 n4 c4, v4, .pointer (some ⟨p, 0, none⟩), v6, v7, v8, v9, v10, v11, v12, v13, v14, v15, v16, v17, u18, u19, u20, u21, u22, u23, u24, u25, u26, u27, u28, u29, u30, u31, u32, u33, v34, v35, v36], []⟩ wx) :
  (Code.region 7 #[⟨some 18, .move (.tmp 3), 30, "l14_route.go:124", #[], none⟩,
   ⟨some 19, .fieldAddr 38 (.tmp 5) 0, 0, "l14_route.go:124", #[], none⟩,
   ⟨some 20, .load 36 (.tmp 19), 36, "l14_route.go:124", #[⟨1, .data⟩], none⟩,
   ⟨some 21, .call ⟨.value (.func 13), #[.tmp 20], #[36]⟩, 9, "l14_route.go:124", #[⟨2, .data⟩], none⟩,
   ⟨some 22, .binOp BinOp.add 9 (.tmp 21) (.const (Value.string { data := #[62] })) 9, 9, "l14_route.go:124", #[⟨3, .data⟩], none⟩,
   ⟨some 23, .fieldAddr 38 (.tmp 5) 1, 0, "l14_route.go:124", #[], none⟩,
   ⟨some 24, .load 3 (.tmp 23), 3, "l14_route.go:124", #[⟨5, .data⟩], none⟩,
   ⟨some 25, .call ⟨.value (.func 14), #[.tmp 24], #[3]⟩, 9, "l14_route.go:124", #[⟨6, .data⟩, ⟨3, .chain⟩], none⟩,
   ⟨some 26, .binOp BinOp.add 9 (.tmp 22) (.tmp 25) 9, 9, "l14_route.go:124", #[⟨4, .data⟩, ⟨7, .data⟩], none⟩,
   ⟨some 27, .binOp BinOp.add 9 (.tmp 26) (.const (Value.string { data := #[58] })) 9, 9, "l14_route.go:124", #[⟨8, .data⟩], none⟩,
   ⟨some 28, .fieldAddr 38 (.tmp 5) 2, 0, "l14_route.go:124", #[], none⟩,
   ⟨some 29, .load 3 (.tmp 28), 3, "l14_route.go:124", #[⟨10, .data⟩], none⟩,
   ⟨some 30, .call ⟨.value (.func 14), #[.tmp 29], #[3]⟩, 9, "l14_route.go:124", #[⟨11, .data⟩, ⟨7, .chain⟩], none⟩,
   ⟨some 31, .binOp BinOp.add 9 (.tmp 27) (.tmp 30) 9, 9, "l14_route.go:124", #[⟨9, .data⟩, ⟨12, .data⟩], none⟩,
   ⟨some 32, .buildSlice 30 1 #[(0, .tmp 31)], 30, "l14_route.go:124", #[⟨13, .data⟩], none⟩,
   ⟨some 33, .call ⟨.builtin .append, #[.tmp 18, .tmp 32], #[30, 30]⟩, 30, "l14_route.go:124", #[⟨0, .data⟩, ⟨14, .data⟩, ⟨12, .chain⟩], none⟩,
   ⟨some 3, .assign (.tmp 33), 30, "l14_route.go:124", #[⟨15, .data⟩, ⟨15, .chain⟩, ⟨0, .phase⟩, ⟨1, .phase⟩, ⟨2, .phase⟩, ⟨3, .phase⟩, ⟨4, .phase⟩, ⟨5, .phase⟩, ⟨6, .phase⟩, ⟨7, .phase⟩, ⟨8, .phase⟩, ⟨9, .phase⟩, ⟨10, .phase⟩, ⟨11, .phase⟩, ⟨12, .phase⟩, ⟨13, .phase⟩, ⟨14, .phase⟩, ⟨15, .phase⟩], none⟩] true).wp Tryd.prog Q ⟨#[v0, v1, v2, .slice xu nu cu, v4, .pointer (some ⟨p, 0, none⟩), v6, v7, v8, v9, v10, v11, v12, v13, v14, v15, v16, v17, v18, v19, v20, v21, v22, v23, v24, v25, v26, v27, v28, v29, v30, v31, v32, v33, v34, v35, v36], []⟩ w := by
 have HQ := Lib.hid hQ; clear hQ
 have hdr : Below w.heap.size w w.drew := (Below.refl _ _).drew
 have BB := Lib.hid hdr
 have BX := Lib.hid (BB.out.mono HBW.out)
 refine wp_region_noPanic ?_
 refine wp_region_held_drew (S := (fun w' => w'.cell? ⟨p, 0, none⟩ = some (.slice xa na ca) ∧ w'.cell? ⟨p, 1, none⟩ = some (.int .i64 rf) ∧ w'.cell? ⟨p, 2, none⟩ = some (.int .i64 rc))) (by kernel_rfl) ?_ (fun hHeld => ?_)
 ·
  exact ⟨kc K0.out BB.out, kc K1.out BB.out, kc K2.out BB.out⟩
 clear hdr
 generalize w.drew = wd at *
 refine wpAnyH_take (i := 0) (oi := ⟨some 18, .move (.tmp 3), 30, "l14_route.go:124", #[], none⟩) (v := ?_) rfl (by kernel_rfl) (by kernel_rfl) (by kernel_rfl) (fun _ _ _ h => h) (Or.inl ⟨by rfl, ?_⟩) (by assumption) ?_
 rotate_left
 ·
  intro w' hSw; (try dsimp only at hSw); first | (go_simp; done) | (go_simp; with_reducible rfl)
 (try simp only [Act.put, Row.pB0, Row.pB1, Row.pB2])
 refine wpAnyH_take (i := 1) (oi := ⟨some 19, .fieldAddr 38 (.tmp 5) 0, 0, "l14_route.go:124", #[], none⟩) (v := ?_) rfl (by kernel_rfl) (by kernel_rfl) (by kernel_rfl) (fun _ _ _ h => h) (Or.inl ⟨by rfl, ?_⟩) (by assumption) ?_
 rotate_left
 ·
  intro w' hSw; (try dsimp only at hSw); first | (go_simp; done) | (go_simp; with_reducible rfl)
 (try simp only [Act.put, Row.pB0, Row.pB1, Row.pB2])
 refine wpAnyH_take (i := 2) (oi := ⟨some 20, .load 36 (.tmp 19), 36, "l14_route.go:124", #[⟨1, .data⟩], none⟩) (v := ?_) rfl (by kernel_rfl) (by kernel_rfl) (by kernel_rfl) (fun _ _ _ h => h) (Or.inl ⟨by rfl, ?_⟩) (by assumption) ?_
 rotate_left
 ·
  intro w' hSw; (try dsimp only at hSw); first | (go_simp; done) | (go_simp; with_reducible rfl)
 (try simp only [Act.put, Row.pB0, Row.pB1, Row.pB2])
 refine wpAnyH_take (i := 5) (oi := ⟨some 23, .fieldAddr 38 (.tmp 5) 1, 0, "l14_route.go:124", #[], none⟩) (v := ?_) rfl (by kernel_rfl) (by kernel_rfl) (by kernel_rfl) (fun _ _ _ h => h) (Or.inl ⟨by rfl, ?_⟩) (by assumption) ?_
 rotate_left
 ·
  intro w' hSw; (try dsimp only at hSw); first | (go_simp; done) | (go_simp; with_reducible rfl)
 (try simp only [Act.put, Row.pB0, Row.pB1, Row.pB2])
 refine wpAnyH_take (i := 6) (oi := ⟨some 24, .load 3 (.tmp 23), 3, "l14_route.go:124", #[⟨5, .data⟩], none⟩) (v := ?_) rfl (by kernel_rfl) (by kernel_rfl) (by kernel_rfl) (fun _ _ _ h => h) (Or.inl ⟨by rfl, ?_⟩) (by assumption) ?_
 rotate_left
 ·
  intro w' hSw; (try dsimp only at hSw); first | (go_simp; done) | (go_simp; with_reducible rfl)
 (try simp only [Act.put, Row.pB0, Row.pB1, Row.pB2])
 refine wpAnyH_take (i := 10) (oi := ⟨some 28, .fieldAddr 38 (.tmp 5) 2, 0, "l14_route.go:124", #[], none⟩) (v := ?_) rfl (by kernel_rfl) (by kernel_rfl) (by kernel_rfl) (fun _ _ _ h => h) (Or.inl ⟨by rfl, ?_⟩) (by assumption) ?_
 rotate_left
 ·
  intro w' hSw; (try dsimp only at hSw); first | (go_simp; done) | (go_simp; with_reducible rfl)
 (try simp only [Act.put, Row.pB0, Row.pB1, Row.pB2])
 refine wpAnyH_take (i := 11) (oi := ⟨some 29, .load 3 (.tmp 28), 3, "l14_route.go:124", #[⟨10, .data⟩], none⟩) (v := ?_) rfl (by kernel_rfl) (by kernel_rfl) (by kernel_rfl) (fun _ _ _ h => h) (Or.inl ⟨by rfl, ?_⟩) (by assumption) ?_
 rotate_left
 ·
  intro w' hSw; (try dsimp only at hSw); first | (go_simp; done) | (go_simp; with_reducible rfl)
 (try simp only [Act.put, Row.pB0, Row.pB1, Row.pB2])
 refine wpAnyH_ready (rs := [3]) (by kernel_rfl) (by simp) ?_
 refine AllReadyH.cons (o := ⟨some 21, .call ⟨.value (.func 13), #[.tmp 20], #[36]⟩, 9, "l14_route.go:124", #[⟨2, .data⟩], none⟩) rfl (fun K hK => ?_) AllReadyH.nil
 go_simp
 refine (iFmtN (H_n.out.on BB.out) (Nat.le_trans HNB.out (by decide))).mono ?_
 rintro e wn1 ⟨rfl, hb⟩
 rw [HT1.out]
 replace BB := Lib.hid (BB.out.trans (hb.mono BB.out.size))
 replace BX := Lib.hid (BX.out.trans (hb.mono (Nat.le_trans HBW.out BX.out.size)))
 clear hb
 (try go_wp2_with fail)
 clear hHeld
 refine hK.out _ _ ?_ (fun hHeld => ?_)
 ·
  (try dsimp only); exact ⟨kc K0.out BB.out, kc K1.out BB.out, kc K2.out BB.out⟩
 clear hK K
 (try simp only [Act.put, Row.pB0, Row.pB1, Row.pB2])
 refine wpAnyH_take (i := 4) (oi := ⟨some 22, .binOp BinOp.add 9 (.tmp 21) (.const (Value.string { data := #[62] })) 9, 9, "l14_route.go:124", #[⟨3, .data⟩], none⟩) (v := ?_) rfl (by kernel_rfl) (by kernel_rfl) (by kernel_rfl) (fun _ _ _ h => h) (Or.inl ⟨by rfl, ?_⟩) (by assumption) ?_
 rotate_left
 ·
  intro w' hSw; (try dsimp only at hSw); first | (go_simp; done) | (go_simp; with_reducible rfl)
 (try simp only [Act.put, Row.pB0, Row.pB1, Row.pB2])
 refine wpAnyH_ready (rs := [7]) (by kernel_rfl) (by simp) ?_
 refine AllReadyH.cons (o := ⟨some 25, .call ⟨.value (.func 14), #[.tmp 24], #[3]⟩, 9, "l14_route.go:124", #[⟨6, .data⟩, ⟨3, .chain⟩], none⟩) rfl (fun K hK => ?_) AllReadyH.nil
 go_simp
 refine (Text.implFormat rf _ HW1.out (HTB.out.on BB.out)).mono ?_
 rintro e wn2 ⟨rfl, hb⟩
 rw [show Text.str (Lib.itoa rf) = _ from HF1.out]
 replace BB := Lib.hid (BB.out.trans (hb.mono BB.out.size))
 replace BX := Lib.hid (BX.out.trans (hb.mono (Nat.le_trans HBW.out BX.out.size)))
 clear hb
 (try go_wp2_with fail)
 clear hHeld
 refine hK.out _ _ ?_ (fun hHeld => ?_)
 ·
  (try dsimp only); exact ⟨kc K0.out BB.out, kc K1.out BB.out, kc K2.out BB.out⟩
 clear hK K
 (try simp only [Act.put, Row.pB0, Row.pB1, Row.pB2])
 refine wpAnyH_take (i := 8) (oi := ⟨some 26, .binOp BinOp.add 9 (.tmp 22) (.tmp 25) 9, 9, "l14_route.go:124", #[⟨4, .data⟩, ⟨7, .data⟩], none⟩) (v := ?_) rfl (by kernel_rfl) (by kernel_rfl) (by kernel_rfl) (fun _ _ _ h => h) (Or.inl ⟨by rfl, ?_⟩) (by assumption) ?_
 rotate_left
 ·
  intro w' hSw; (try dsimp only at hSw); first | (go_simp; done) | (go_simp; with_reducible rfl)
 (try simp only [Act.put, Row.pB0, Row.pB1, Row.pB2])
 refine wpAnyH_take (i := 9) (oi := ⟨some 27, .binOp BinOp.add 9 (.tmp 26) (.const (Value.string { data := #[58] })) 9, 9, "l14_route.go:124", #[⟨8, .data⟩], none⟩) (v := ?_) rfl (by kernel_rfl) (by kernel_rfl) (by kernel_rfl) (fun _ _ _ h => h) (Or.inl ⟨by rfl, ?_⟩) (by assumption) ?_
 rotate_left
 ·
  intro w' hSw; (try dsimp only at hSw); first | (go_simp; done) | (go_simp; with_reducible rfl)
 (try simp only [Act.put, Row.pB0, Row.pB1, Row.pB2])
 refine wpAnyH_ready (rs := [12]) (by kernel_rfl) (by simp) ?_
 refine AllReadyH.cons (o := ⟨some 30, .call ⟨.value (.func 14), #[.tmp 29], #[3]⟩, 9, "l14_route.go:124", #[⟨11, .data⟩, ⟨7, .chain⟩], none⟩) rfl (fun K hK => ?_) AllReadyH.nil
 go_simp
 refine (Text.implFormat rc _ HW2.out (HTB.out.on BB.out)).mono ?_
 rintro e wn3 ⟨rfl, hb⟩
 rw [show Text.str (Lib.itoa rc) = _ from HC1.out]
 replace BB := Lib.hid (BB.out.trans (hb.mono BB.out.size))
 replace BX := Lib.hid (BX.out.trans (hb.mono (Nat.le_trans HBW.out BX.out.size)))
 clear hb
 (try go_wp2_with fail)
 clear hHeld
 refine hK.out _ _ ?_ (fun hHeld => ?_)
 ·
  (try dsimp only); exact ⟨kc K0.out BB.out, kc K1.out BB.out, kc K2.out BB.out⟩
 clear hK K
 (try simp only [Act.put, Row.pB0, Row.pB1, Row.pB2])
 refine wpAnyH_take (i := 13) (oi := ⟨some 31, .binOp BinOp.add 9 (.tmp 27) (.tmp 30) 9, 9, "l14_route.go:124", #[⟨9, .data⟩, ⟨12, .data⟩], none⟩) (v := ?_) rfl (by kernel_rfl) (by kernel_rfl) (by kernel_rfl) (fun _ _ _ h => h) (Or.inl ⟨by rfl, ?_⟩) (by assumption) ?_
 rotate_left
 ·
  intro w' hSw; (try dsimp only at hSw); first | (go_simp; done) | (go_simp; with_reducible rfl)
 (try simp only [Act.put, Row.pB0, Row.pB1, Row.pB2])
 refine wpAnyH_ready (rs := [14]) (by kernel_rfl) (by simp) ?_
 refine AllReadyH.cons (o := ⟨some 32, .buildSlice 30 1 #[(0, .tmp 31)], 30, "l14_route.go:124", #[⟨13, .data⟩], none⟩) rfl (fun K hK => ?_) AllReadyH.nil
 go_simp
 have hb : Below wn3.heap.size wn3 (wn3.alloc (.cells #[.string (t1 ++ ByteArray.mk #[62] ++ f1 ++ ByteArray.mk #[58] ++ c1)] 9)) := (Below.refl _ _).alloc (Nat.le_refl _) _
 have HSO := Lib.hid (show HoldsK encS 1 (wn3.alloc (.cells #[.string (t1 ++ ByteArray.mk #[62] ++ f1 ++ ByteArray.mk #[58] ++ c1)] 9)) (.slice (some ⟨wn3.heap.size, 0, none⟩) 1 1) [t1 ++ mk [62] ++ f1 ++ mk [58] ++ c1] from holdsK_one szS14 9 wn3 (t1 ++ mk [62] ++ f1 ++ mk [58] ++ c1))
 replace BB := Lib.hid (BB.out.trans (hb.mono BB.out.size))
 replace BX := Lib.hid (BX.out.trans (hb.mono (Nat.le_trans HBW.out BX.out.size)))
 clear hb
 generalize wn3.alloc (.cells #[.string (t1 ++ ByteArray.mk #[62] ++ f1 ++ ByteArray.mk #[58] ++ c1)] 9) = wn4 at *
 clear hHeld
 refine hK.out _ _ ?_ (fun hHeld => ?_)
 ·
  (try dsimp only); exact ⟨kc K0.out BB.out, kc K1.out BB.out, kc K2.out BB.out⟩
 clear hK K
 (try simp only [Act.put, Row.pB0, Row.pB1, Row.pB2])
 refine wpAnyH_ready (rs := [15]) (by kernel_rfl) (by simp) ?_
 refine AllReadyH.cons (o := ⟨some 33, .call ⟨.builtin .append, #[.tmp 18, .tmp 32], #[30, 30]⟩, 30, "l14_route.go:124", #[⟨0, .data⟩, ⟨14, .data⟩, ⟨12, .chain⟩], none⟩) rfl (fun K hK => ?_) AllReadyH.nil
 refine step_appK kindS14 (B := B) (v := .slice xu nu cu) (l := Lu) (m := [t1 ++ mk [62] ++ f1 ++ mk [58] ++ c1]) rfl _ _ (by rfl) Tryd.underlying30 (by rfl) (by rfl) ?_ ?_ ?_ ?_ ?_ ?_
 ·
  exact HOL.out.on BB.out
 ·
  exact HSO.out
 ·
  have h5 := HLM.out; simp; omega
 ·
  have h5 := HLM.out; unfold maxLen; simp; omega
 ·
  exact Nat.le_trans HBW.out BB.out.size
 intro v4 wn5 ho4 hg4
 obtain ⟨x4, n4, c4, rfl, -, -, ho4⟩ := ho4.shapeN
 have HO4 := Lib.hid ho4
 replace BX := Lib.hid (BX.out.grown hg4 (Nat.le_trans HBW.out BX.out.size) (fun g e => ((HOL.out.on BB.out).lt g e).1))
 have k0_ := hg4.cell (kc K0.out BB.out) HPR.out
 have k1_ := hg4.cell (kc K1.out BB.out) HPR.out
 have k2_ := hg4.cell (kc K2.out BB.out) HPR.out
 clear ho4 hg4
 clear hHeld
 refine hK.out _ _ ?_ (fun hHeld => ?_)
 ·
  (try dsimp only); exact ⟨k0_, k1_, k2_⟩
 clear hK K k0_ k1_ k2_
 (try simp only [Act.put, Row.pB0, Row.pB1, Row.pB2])
 refine wpAnyH_take (i := 16) (oi := ⟨some 3, .assign (.tmp 33), 30, "l14_route.go:124", #[⟨15, .data⟩, ⟨15, .chain⟩, ⟨0, .phase⟩, ⟨1, .phase⟩, ⟨2, .phase⟩, ⟨3, .phase⟩, ⟨4, .phase⟩, ⟨5, .phase⟩, ⟨6, .phase⟩, ⟨7, .phase⟩, ⟨8, .phase⟩, ⟨9, .phase⟩, ⟨10, .phase⟩, ⟨11, .phase⟩, ⟨12, .phase⟩, ⟨13, .phase⟩, ⟨14, .phase⟩, ⟨15, .phase⟩], none⟩) (v := ?_) rfl (by kernel_rfl) (by kernel_rfl) (by kernel_rfl) (fun _ _ _ h => h) (Or.inl ⟨by rfl, ?_⟩) (by assumption) ?_
 rotate_left
 ·
  intro w' hSw; (try dsimp only at hSw); first | (go_simp; done) | (go_simp; with_reducible rfl)
 (try simp only [Act.put, Row.pB0, Row.pB1, Row.pB2])
 refine wpAnyH_done (by kernel_rfl) ?_ _
 exact NoPanic.normal (HQ.out _ _ _ _ _ _ _ _ _ _ _ _ _ _ _ _ x4 n4 c4 _ HO4 BX.out)
end Go.Proofs.YtdaahcaafdleaabDoor.Row
/- FormatRoutes, model and program. No conditions but that lengths fit, that numbers are numbers, and the library's table. -/
namespace Go.Proofs.YtdaahcaafdleaabDoor.Row
open Go.ChangeShapes Go.WideShapes Go.ChangeAt Go.RowKit Go.Instr
set_option linter.unusedVariables false
set_option maxRecDepth 100000
set_option maxHeartbeats 8000000 in
theorem specFormatRoutes (V : Value) (l : List Rtt) (w : World) (h : kLRt.At w V l) (hf : FitRt l) (hw : ∀ x ∈ l, wfR x) :
    Calls Tryd.prog 5 #[V] w fun e w' => e = .returned (.string (fmtRts l)) ∧ Below w.heap.size w w' := by
  have hl := hf.len
  have hp := hf.each
  have HWF := Lib.hid hw; have HSZ := Lib.hid (fun k (hk : k ≤ l.length) => jR_fit hw hf hk)
  obtain ⟨x, n, cx, L, rfl, hn, ht, hh, hel⟩ := kLRt_at h
  have hlen : l.length = n := by rw [← ht, List.length_map]; exact hn.symm
  rw [hlen] at hl
  have hcap : n ≤ cx := by obtain ⟨x', n', cap', hv, hn', hc', -⟩ := hh.shapeN; cases hv; exact hc'
  have HN := Lib.hid hn; have HT := Lib.hid ht; have HH := Lib.hid hh; have HEL := Lib.hid hel; have HLEN := Lib.hid hlen; have HP := Lib.hid hp
  clear hn ht hh hel hlen hp h hf hw
  go_enter Tryd.func5, Tryd.ntmps5
  go_wp2_with fail
  go_loopw [3, 4] (fun sv iv wr => ∃ (k : Nat) (s : ByteArray), k ≤ n ∧ iv = .int .i64 k ∧ sv = .string s ∧ s.size ≤ 60000000 ∧ Hid (s = jR (l.map txR) k) ∧ Hid (Below w.heap.size w wr)) (fun _ iv _ => n - (intOf iv).toNat)
  case atStart => exact ⟨0, mk [], Nat.zero_le _, rfl, rfl, by rw [mk_size]; simp, Lib.hid rfl, Lib.hid (Below.refl _ _)⟩
  case round =>
    obtain ⟨k, s, hk, rfl, rfl, hs, he, hb⟩ := hrel
    by_cases hlt : k < n
    · have hlen := HN.out
      obtain ⟨b, off, y0, m0, d0, rfl, -, hc0, hc1, hc2, hA⟩ := kLRt_elem (HH.out.on hb.out) (fun y hy => kRt.holds_on (HEL.out y hy) hb.out) (j := k) (by omega)
      have hpt : nth l k = kRt.strip (nth L k) := by rw [← HT.out, nth_map _ (by omega)]
      have hps := HP.out (nth l k) (nth_mem (by have := HLEN.out; omega))
      rw [← hpt] at hA hc1 hc2
      have hNM := kRt_parts hA
      obtain ⟨nm, rf, rc, hx⟩ : ∃ nm rf rc, nth l k = (nm, rf, rc) := ⟨_, _, _, rfl⟩
      rw [hx] at hNM hps hc1 hc2 hA
      have HA := Lib.hid hA; have HNM := Lib.hid hNM; have HPN := Lib.hid hps; have HXE := Lib.hid hx
      simp only at hc1 hc2
      have H0 := Lib.hid hc0; have H1 := Lib.hid hc1; have H2 := Lib.hid hc2
      clear hlen hpt hps hA hNM hx
      have HPX := Lib.hid (show wfR (nm, rf, rc) from by have h5 := HWF.out (nth l k) (nth_mem (by have := HLEN.out; omega)); rw [HXE.out] at h5; exact h5)
      obtain ⟨t1, ht1⟩ : ∃ t1, fmtS nm = t1 := ⟨_, rfl⟩
      obtain ⟨f1, hf1⟩ : ∃ f1, itS rf = f1 := ⟨_, rfl⟩
      obtain ⟨c1, hc1_⟩ : ∃ c1, itS rc = c1 := ⟨_, rfl⟩
      have zt : t1.size ≤ 1200001 := by have h5 := fmtS_szR nm; rw [ht1] at h5; have h6 := HPN.out; simp only at h6; omega
      have zf : f1.size ≤ 21 := by have h5 := Text.itoa_size rf HPX.out.1; rw [show Text.str (Lib.itoa rf) = f1 from hf1] at h5; exact h5
      have zc : c1.size ≤ 21 := by have h5 := Text.itoa_size rc HPX.out.2; rw [show Text.str (Lib.itoa rc) = c1 from hc1_] at h5; exact h5
      have HNT := Lib.hid (show nth (l.map txR) k = t1 ++ mk [62] ++ f1 ++ mk [58] ++ c1 from by rw [nth_map _ (by have := HLEN.out; omega), HXE.out]; unfold txR; simp only; rw [ht1, hf1, hc1_])
      have HT1 := Lib.hid ht1; have HF1 := Lib.hid hf1; have HC1 := Lib.hid hc1_
      clear ht1 hf1 hc1_
      by_cases h0 : k = 0
      · have HJ := Lib.hid (show jR (l.map txR) (k + 1) = s ++ t1 ++ mk [62] ++ f1 ++ mk [58] ++ c1 from by
          rw [show jR (l.map txR) (k + 1) = (if k = 0 then jR (l.map txR) k else jR (l.map txR) k ++ mk [32]) ++ nth (l.map txR) k from rfl, if_pos h0, ← he.out, HNT.out]
          simp only [ByteArray.append_assoc])
        have t0 : decide ((0 : Int) < (k : Int)) = false := decide_eq_false (by omega)
        have tk : ¬ 0 < k := by omega
        clear h0
        go_wp2_with fail
        refine rfs hlt (by omega) (by omega) HT1 HF1 HC1 (Lib.hid HPX.out.1) (Lib.hid HPX.out.2) HNM HPN (by omega) (by omega) (by omega) (by omega) (by omega) H0 H1 H2 ?_
        intro u15 u16 u17 u18 u19 u20 u21 u22 u23 u24 u25 u26 u27 u28 u29 u30 u31 u32 u33 u34 u35 u36 u37 u38 wx hbx
        clear t0 tk
        have HB2 := Lib.hid (hb.out.trans (hbx.mono hb.out.size))
        have HZJ := Lib.hid (show (s ++ t1 ++ mk [62] ++ f1 ++ mk [58] ++ c1).size ≤ 60000000 from by have h5 := HSZ.out (k + 1) (by have := HLEN.out; omega); rw [HJ.out] at h5; exact h5)
        clear hbx hc0 hc1 hc2
        go_wp2
        go_roundw
        case rel => exact ⟨k + 1, s ++ t1 ++ mk [62] ++ f1 ++ mk [58] ++ c1, by omega, by first | go_num | rfl, rfl, HZJ.out, Lib.hid HJ.out.symm, HB2⟩
        case measure => simp [intOf]; omega
      · have HJ := Lib.hid (show jR (l.map txR) (k + 1) = s ++ mk [32] ++ t1 ++ mk [62] ++ f1 ++ mk [58] ++ c1 from by
          rw [jR_step h0, ← he.out, HNT.out]
          simp only [ByteArray.append_assoc])
        have t0 : decide ((0 : Int) < (k : Int)) = true := decide_eq_true (by omega)
        have tk : 0 < k := by omega
        clear h0
        have hz1 : (s ++ mk [32]).size = s.size + 1 := by rw [ByteArray.size_append, mk_size]; rfl
        go_wp2_with fail
        refine rfs (s := s ++ mk [32]) hlt (by omega) (by omega) HT1 HF1 HC1 (Lib.hid HPX.out.1) (Lib.hid HPX.out.2) HNM HPN (by rw [hz1]; omega) (by rw [hz1]; omega) (by rw [hz1]; omega) (by rw [hz1]; omega) (by rw [hz1]; omega) H0 H1 H2 ?_
        intro u15 u16 u17 u18 u19 u20 u21 u22 u23 u24 u25 u26 u27 u28 u29 u30 u31 u32 u33 u34 u35 u36 u37 u38 wx hbx
        clear t0 tk
        have HB2 := Lib.hid (hb.out.trans (hbx.mono hb.out.size))
        have HZJ := Lib.hid (show (s ++ mk [32] ++ t1 ++ mk [62] ++ f1 ++ mk [58] ++ c1).size ≤ 60000000 from by have h5 := HSZ.out (k + 1) (by have := HLEN.out; omega); rw [HJ.out] at h5; exact h5)
        clear hbx hc0 hc1 hc2
        go_wp2
        go_roundw
        case rel => exact ⟨k + 1, s ++ mk [32] ++ t1 ++ mk [62] ++ f1 ++ mk [58] ++ c1, by omega, by first | go_num | rfl, rfl, HZJ.out, Lib.hid HJ.out.symm, HB2⟩
        case measure => simp [intOf]; omega
    · obtain rfl : k = n := by omega
      clear hlt
      by_cases h0 : k = 0
      · subst h0
        have HE := Lib.hid (show fmtRts l = mk [45] by unfold fmtRts; rw [if_pos HLEN.out])
        go_wp2_with fail
        go_ret
        exact ⟨ret_strR HE.out.symm, hb.out⟩
      · have hne : ((k : Int) == 0) = false := by simpa using h0
        have HE := Lib.hid (show s = fmtRts l by unfold fmtRts; rw [if_neg (by rw [HLEN.out]; exact h0), he.out, HLEN.out])
        clear h0
        go_wp2_with fail
        go_ret
        exact ⟨ret_strR HE.out, hb.out⟩
set_option maxHeartbeats 8000000 in
theorem implFormatRoutes (V : Value) (l : List Rtt) (w : World) (h : kLRt.At w V l) (hf : FitRt l) (hw : ∀ x ∈ l, wfR x) (hTab : Text.Tab w) :
    Calls Tryd.prog 7 #[V] w fun e w' => e = .returned (.string (fmtRts l)) ∧ Below w.heap.size w w' := by
  have hl := hf.len
  have hp := hf.each
  have HTB := Lib.hid hTab
  have HWF := Lib.hid hw; have HSZ := Lib.hid (fun k (hk : k ≤ l.length) => jR_fit hw hf hk)
  obtain ⟨x, n, cx, L, rfl, hn, ht, hh, hel⟩ := kLRt_at h
  have hlen : l.length = n := by rw [← ht, List.length_map]; exact hn.symm
  rw [hlen] at hl
  have hcap : n ≤ cx := by obtain ⟨x', n', cap', hv, hn', hc', -⟩ := hh.shapeN; cases hv; exact hc'
  have HN := Lib.hid hn; have HT := Lib.hid ht; have HH := Lib.hid hh; have HEL := Lib.hid hel; have HLEN := Lib.hid hlen; have HP := Lib.hid hp
  clear hn ht hh hel hlen hp h hf hw hTab
  by_cases h0 : n = 0
  · have HE := Lib.hid (show fmtRts l = mk [45] by unfold fmtRts; rw [if_pos (by rw [HLEN.out]; exact h0)])
    subst h0
    go_enter Tryd.func7, Tryd.ntmps7
    go_wp2_with fail
    go_ret
    exact ⟨ret_strR HE.out.symm, Below.refl _ _⟩
  have hne : ((n : Int) == 0) = false := by simpa using h0
  have HNE := Lib.hid h0
  obtain ⟨i0, hi, hz0, hz1, hz2⟩ := info_parts kindS14.elem
  have HI := Lib.hid hi; have HZ0 := Lib.hid hz0; have HZ1 := Lib.hid hz1; have HZ2 := Lib.hid hz2
  clear hi hz0 hz1 hz2 h0
  go_enter Tryd.func7, Tryd.ntmps7
  go_wp2_with (at_make; refine wpList_make_own _ rfl _ _ 30 rfl w.heap.size 9 i0 (.string ByteArray.empty) 1 Tryd.underlying30 HI.out HZ0.out HZ1.out _ _ _ n rfl rfl rfl (by rw [HZ2.out]; omega) (by unfold maxLen; omega) (Nat.le_refl _) ?_)
  intro w1 hown hgrow
  have HO := Lib.hid (show OwnK 9 encS 1 w.heap.size w1 (.slice (some ⟨w.heap.size, 0, none⟩) 0 n) ((l.map txR).take 0) from hown)
  have HB := Lib.hid ((Below.refl w.heap.size w).grown hgrow (Nat.le_refl _) (fun g hg => by cases hg))
  clear hown hgrow HI HZ0 HZ1 HZ2
  go_wp2_with fail
  go_loopw [3, 14] (fun uv iv wr => ∃ k : Nat, k ≤ n ∧ iv = .int .i64 k ∧ ∃ xu nu cu, uv = .slice xu nu cu ∧ Hid (OwnK 9 encS 1 w.heap.size wr (.slice xu nu cu) ((l.map txR).take k)) ∧ Hid (Below w.heap.size w wr)) (fun _ iv _ => n - (intOf iv).toNat)
  case atStart => exact ⟨0, Nat.zero_le _, rfl, _, _, _, rfl, HO, HB⟩
  case round =>
    clear HO HB
    obtain ⟨k, hk, rfl, xu, nu, cu, rfl, ho, hb⟩ := hrel
    by_cases hlt : k < n
    · have hlen := HN.out
      obtain ⟨b, off, y0, m0, d0, rfl, -, hc0, hc1, hc2, hA⟩ := kLRt_elem (HH.out.on hb.out) (fun y hy => kRt.holds_on (HEL.out y hy) hb.out) (j := k) (by omega)
      have hpt : nth l k = kRt.strip (nth L k) := by rw [← HT.out, nth_map _ (by omega)]
      have hps := HP.out (nth l k) (nth_mem (by have := HLEN.out; omega))
      rw [← hpt] at hA hc1 hc2
      have hNM := kRt_parts hA
      obtain ⟨nm, rf, rc, hx⟩ : ∃ nm rf rc, nth l k = (nm, rf, rc) := ⟨_, _, _, rfl⟩
      rw [hx] at hNM hps hc1 hc2 hA
      have HA := Lib.hid hA; have HNM := Lib.hid hNM; have HPN := Lib.hid hps; have HXE := Lib.hid hx
      simp only at hc1 hc2
      have H0 := Lib.hid hc0; have H1 := Lib.hid hc1; have H2 := Lib.hid hc2
      clear hlen hpt hps hA hNM hx
      have HPX := Lib.hid (show wfR (nm, rf, rc) from by have h5 := HWF.out (nth l k) (nth_mem (by have := HLEN.out; omega)); rw [HXE.out] at h5; exact h5)
      obtain ⟨t1, ht1⟩ : ∃ t1, fmtS nm = t1 := ⟨_, rfl⟩
      obtain ⟨f1, hf1⟩ : ∃ f1, itS rf = f1 := ⟨_, rfl⟩
      obtain ⟨c1, hc1_⟩ : ∃ c1, itS rc = c1 := ⟨_, rfl⟩
      have zt : t1.size ≤ 1200001 := by have h5 := fmtS_szR nm; rw [ht1] at h5; have h6 := HPN.out; simp only at h6; omega
      have zf : f1.size ≤ 21 := by have h5 := Text.itoa_size rf HPX.out.1; rw [show Text.str (Lib.itoa rf) = f1 from hf1] at h5; exact h5
      have zc : c1.size ≤ 21 := by have h5 := Text.itoa_size rc HPX.out.2; rw [show Text.str (Lib.itoa rc) = c1 from hc1_] at h5; exact h5
      have HNT := Lib.hid (show nth (l.map txR) k = t1 ++ mk [62] ++ f1 ++ mk [58] ++ c1 from by rw [nth_map _ (by have := HLEN.out; omega), HXE.out]; unfold txR; simp only; rw [ht1, hf1, hc1_])
      have HT1 := Lib.hid ht1; have HF1 := Lib.hid hf1; have HC1 := Lib.hid hc1_
      clear ht1 hf1 hc1_
      have hal := (Below.refl wr.heap.size wr).alloc (Nat.le_refl _) (.cells #[.slice y0 m0 d0, .int .i64 rf, .int .i64 rc] 38)
      have HXB := Lib.hid (Ret.Blk.new wr #[.slice y0 m0 d0, .int .i64 rf, .int .i64 rc] 38)
      have HN2 := Lib.hid (HNM.out.on hal); have HOL := Lib.hid (ho.out.on hal); have hb2 := Lib.hid (hb.out.trans (hal.mono hb.out.size)); have HTB2 := Lib.hid (HTB.out.on hb2.out)
      have HPR := Lib.hid (fun e => by have h5 := (ho.out.lt _ (Eq.symm e)).2; omega : some wr.heap.size ≠ (Value.slice xu nu cu).ownBlock)
      have HBW := Lib.hid hb2.out.size
      have HLM := Lib.hid (show ((l.map txR).take k).length ≤ 1100000 by rw [List.length_take]; omega)
      have HTN := Lib.hid (show (l.map txR).take (k + 1) = (l.map txR).take k ++ [t1 ++ mk [62] ++ f1 ++ mk [58] ++ c1] from by rw [take_nx (by rw [List.length_map]; have := HLEN.out; omega), HNT.out])
      clear hal
      go_wp2_with fail
      refine rfi (B := w.heap.size) (Lu := (l.map txR).take k) HBW HLM HOL HTB2 HPR HT1 HF1 HC1 (Lib.hid HPX.out.1) (Lib.hid HPX.out.2) HN2 HPN (by omega) (by omega) (by omega) (by omega) (Lib.hid (HXB.out.cell 0)) (Lib.hid (HXB.out.cell 1)) (Lib.hid (HXB.out.cell 2)) ?_
      intro u18 u19 u20 u21 u22 u23 u24 u25 u26 u27 u28 u29 u30 u31 u32 u33 x4 n4 c4 wx ho4 hbx
      have HO4 := Lib.hid (show OwnK 9 encS 1 w.heap.size wx (.slice x4 n4 c4) ((l.map txR).take (k + 1)) from by rw [HTN.out]; exact ho4.out)
      have HB4 := Lib.hid (hb2.out.trans hbx)
      clear ho4 hbx hc0 hc1 hc2
      go_wp2
      go_roundw
      case rel => exact ⟨k + 1, by omega, by go_num, x4, n4, c4, rfl, HO4, HB4⟩
      case measure => simp [intOf]; omega
    · obtain rfl : k = n := by omega
      clear hlt
      have hO9 := (ownS_of ho.out).holds
      rw [List.take_of_length_le (by rw [List.length_map, HLEN.out]; exact Nat.le_refl _)] at hO9
      have HO9 := Lib.hid hO9
      have hne2 : l.map txR ≠ [] := fun e => HNE.out (by rw [← HLEN.out]; have := congrArg List.length e; simpa using this)
      have HJA := Lib.hid (jR_all hne2)
      have HJL := Lib.hid (show (Lib.join ((l.map txR).map bl) [32]).length ≤ 60000000 by
        have h1 := HSZ.out l.length (Nat.le_refl _)
        have h2 := HJA.out
        rw [List.length_map] at h2
        rw [h2, mk_size] at h1
        exact h1)
      have HNE2 := Lib.hid hne2
      have HLX := Lib.hid (show (l.map txR).length ≤ 9000000 by rw [List.length_map, HLEN.out]; omega)
      have HJ : Hid (Calls Tryd.prog 15 #[.slice xu nu cu, .string (mk [32])] wr fun e w' => e = .returned (.string (mk (Lib.join ((l.map txR).map bl) [32]))) ∧ Below wr.heap.size wr w') := by
        refine Lib.hid ?_
        obtain ⟨x', cap', hv, hc', hh'⟩ := HO9.out
        cases hv
        rcases hh' with h0 | ⟨b, off, rfl, hc⟩
        · exact absurd h0 HNE2.out
        · have hlp : 0 < (l.map txR).length := List.length_pos_iff.2 HNE2.out
          exact Tryd.strings_Join b off cu (l.map txR) (mk [32]) wr (fun j y hy => by
            have hj : j < (l.map txR).length := (List.getElem?_eq_some_iff.1 hy).1
            rw [hc j hj, nth_eq hj]
            rw [List.getElem?_eq_getElem hj] at hy
            cases hy; rfl) (by have := cell_lt (hc 0 hlp); exact this) (by have := HLX.out; omega) hc' (by show (Lib.join ((l.map txR).map bl) [32]).length ≤ _; have := HJL.out; omega)
      have HE := Lib.hid (show fmtRts l = mk (Lib.join ((l.map txR).map bl) [32]) by
        unfold fmtRts
        rw [if_neg (by rw [HLEN.out]; exact HNE.out)]
        have h2 := HJA.out
        rwa [List.length_map] at h2)
      clear hO9 hne2
      go_wp2_with fail
      refine HJ.out.mono ?_
      rintro e w4 ⟨rfl, hb4⟩
      have HB4 := Lib.hid (hb.out.trans (hb4.mono hb.out.size))
      clear hb4
      go_wp2_with fail
      go_ret
      exact ⟨ret_strR (by rw [HE.out, List.map_map]), HB4.out⟩
end Go.Proofs.YtdaahcaafdleaabDoor.Row
/- A slice of numbers that came in as an argument: it holds a list, its numbers fit their kind, its length is within the reach. No conditions. -/
namespace Go.Proofs.YtdaahcaafdleaabDoor.Sl
open Go.ChangeShapes Go.WideShapes Go.ChangeAt Go.RowKit
end Go.Proofs.YtdaahcaafdleaabDoor.Sl
