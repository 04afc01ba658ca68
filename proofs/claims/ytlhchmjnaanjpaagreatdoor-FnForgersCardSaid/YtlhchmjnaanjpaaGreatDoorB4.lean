/- Contracts and mathematics, joined: AppP, DrawName, DrawAny, NameMath, Split, ParseN, DrawH, HB, OpenK, NmK, KeyK, KeySK, Patn, PtK, RuleK. No conditions but those that each states. -/
import Derived.Test.YtlhchmjnaanjpaaGreatDoorB3
import Derived.Test.YtlhchmjnaanjpaaGreatDoorB1
import Derived.Deep.RegionLaw
import Derived.Lib.Join
import Derived.Lib.OthersKept
import Derived.Test.YtlhchmjnaanjpaaGreatDoorB2
import Derived.SizedLaws
import Derived.ChangeSlices
import Derived.ChangeSame
import Derived.ChangeArms
import Derived.Deep.Strs
import Derived.Lib.SmallJoins
/- Contracts of AppendPart, the program's and the reference model's. No conditions but that lengths fit. -/
namespace Go.Proofs.YtlhchmjnaanjpaaGreatDoor.Row
open Go.ChangeShapes Go.WideShapes Go.ChangeAt Go.RowKit Go.Instr
set_option linter.unusedVariables false
set_option maxRecDepth 100000
theorem bulk_append (l m : List ByteArray) : bulk (l ++ m) = bulk l + bulk m := by
  unfold bulk bulkTo
  rw [List.take_length, List.take_length, List.take_length, List.map_append, List.sum_append, List.length_append]
  omega
theorem bulk_one (s : ByteArray) : bulk [s] = 1 + s.size := by simp [bulk, bulkTo]
theorem bulk_cons (x : ByteArray) (l : List ByteArray) : bulk (x :: l) = 1 + x.size + bulk l := by
  have := bulk_append [x] l
  rw [bulk_one] at this
  exact this
theorem bulk_nil : bulk [] = 0 := by simp [bulk, bulkTo]
theorem bulk_valid {l : List ByteArray} (h : validN l = true) : bulk l ≤ 60 := by
  obtain ⟨h1, h2⟩ := validN_iff.1 h
  have key : ∀ l : List ByteArray, (∀ x ∈ l, validP x = true) → bulk l ≤ 9 * l.length := by
    intro l
    induction l with
    | nil => intro _; rw [bulk_nil]; simp
    | cons x r ih =>
      intro hx
      have h3 := ih (fun y hy => hx y (by simp [hy]))
      have h4 := (validP_iff.1 (hx x (by simp))).2.1
      rw [bulk_cons, List.length_cons]; omega
  have := key l h2
  omega
def appN (l : List ByteArray) (s : ByteArray) : List ByteArray := if validN (l ++ [s]) = true then l ++ [s] else l
theorem appN_yes {l : List ByteArray} {s : ByteArray} (h : validN (l ++ [s]) = true) : appN l s = l ++ [s] := if_pos h
theorem appN_no {l : List ByteArray} {s : ByteArray} (h : validN (l ++ [s]) = false) : appN l s = l := if_neg (by simp [h])
theorem ret_nb {v : Value} {a b : Bool} (h : a = b) : Ending.returned (.tuple #[v, .bool a]) = .returned (.tuple #[v, .bool b]) := by rw [h]
def vs2 (a b : Value) (j : Nat) : Value := if j = 0 then a else b
def ls2 (a b : List ByteArray) (j : Nat) : List ByteArray := if j = 0 then a else b
set_option maxHeartbeats 1000000 in
theorem l4Copy (v : Value) (l : List ByteArray) (w : World) (h : Holds Value.string w v l) (hl : l.length ≤ 10000000) :
    Calls Tryz.prog 39 #[.agg #[v]] w (GivesN w l) := by
  obtain ⟨x, n, cap, rfl, hn, hcap, hh⟩ := h.shapeN
  rw [← hn] at hl
  have HB0 := Lib.hid ((((Below.refl w.heap.size w).alloc (Nat.le_refl _) (.cells #[.slice x n cap] 32)).alloc (by simp) (.cells #[.slice none 0 0] 32)).alloc (by simp; omega) (.cells #[] 9))
  have HN := Lib.hid hn
  have HT2 := Lib.hid (hh.on HB0.out)
  have HO := Lib.hid (own_empty Value.string 9 ((w.alloc (.cells #[.slice x n cap] 32)).alloc (.cells #[.slice none 0 0] 32)))
  simp only [World.size_alloc] at HO
  have HR := Lib.hid ((Ret.NC.new' (.slice none 0 0) 32 (w := w.alloc (.cells #[.slice x n cap] 32)) (n := w.heap.size + 1) (by simp)).alloc (.cells #[] 9))
  clear hh h hn
  go_enter Tryz.func39, Tryz.ntmps39
  go_wp2_with (at_builtin; refine wpList_app (enc := Value.string) (B := w.heap.size + 1 + 1) (l := []) (m := l) rfl _ _ rfl Tryz.underlying30 elemSTR rfl rfl rfl HO.out HT2.out oneStr (by rw [← HN.out]; simp; omega) (by rw [← HN.out]; unfold maxLen; simp; omega) (by simp) ?_)
  intro v3 w3 ho3 hg3
  obtain ⟨x3, n3, c3, rfl, hn3, hc3, ho3⟩ := ho3.shapeN
  clear hn3
  have HB4 := Lib.hid (HB0.out.grown hg3 (by simp; omega) (fun g hh => by have := (HO.out.lt g hh).1; omega))
  obtain ⟨hk2, hf2⟩ := HR.out.grown hg3 (by simp [Value.ownBlock])
  obtain ⟨q1, q2, q3⟩ := endN (w := w) (g := w.heap.size + 1) (by omega) (by omega) ho3 hk2 HB4.out
  have HQ1 := Lib.hid q1; have HQ2 := Lib.hid q2; have HQ3 := Lib.hid q3
  clear q1 q2 q3 ho3 hg3
  go_wp2
  refine bodyPost_ret (Ret.results_c rfl _ _ (w.heap.size + 1) [_] rfl aggN (Ret.one HQ1.out)) rfl ?_
  exact ⟨_, rfl, HQ2.out, HQ3.out⟩
set_option maxHeartbeats 2000000 in
theorem specAppendPart (v : Value) (l : List ByteArray) (s : ByteArray) (w : World) (h : Holds Value.string w v l) (hl : bulk l ≤ 10000000) (hs : s.size ≤ 10000000) :
    Calls Tryz.prog 121 #[.agg #[v], .string s] w (GivesNB w (appN l s) (validN (l ++ [s]))) := by
  obtain ⟨x, n, cap, rfl, hn, hcap, hh⟩ := h.shapeN
  have hll := bigLen hl
  have HBK := Lib.hid (show bulk (l ++ [s]) ≤ 100000000 by rw [bulk_append, bulk_one]; omega)
  rw [← hn] at hll
  have HB0 := Lib.hid ((((Below.refl w.heap.size w).alloc (Nat.le_refl _) (.cells #[.slice x n cap] 32)).alloc (by simp) (.cells #[.slice none 0 0] 32)).alloc (by simp; omega) (.cells #[] 9))
  have HN := Lib.hid hn
  have HT2 := Lib.hid (hh.on HB0.out)
  have HO := Lib.hid (own_empty Value.string 9 ((w.alloc (.cells #[.slice x n cap] 32)).alloc (.cells #[.slice none 0 0] 32)))
  simp only [World.size_alloc] at HO
  have HX := Lib.hid (((Ret.NC.new' (w := w) (.slice x n cap) 32 rfl).alloc (.cells #[.slice none 0 0] 32)).alloc (.cells #[] 9))
  have HR := Lib.hid ((Ret.NC.new' (.slice none 0 0) 32 (w := w.alloc (.cells #[.slice x n cap] 32)) (n := w.heap.size + 1) (by simp)).alloc (.cells #[] 9))
  have HH := Lib.hid hh
  clear hh h hn hl
  go_enter Tryz.func121, Tryz.ntmps121
  go_wp2_with (at_builtin; refine wpList_app (enc := Value.string) (B := w.heap.size + 1 + 1) (l := []) (m := l) rfl _ _ rfl Tryz.underlying30 elemSTR rfl rfl rfl HO.out HT2.out oneStr (by rw [← HN.out]; simp; omega) (by rw [← HN.out]; unfold maxLen; simp; omega) (by simp) ?_)
  intro v3 w3 ho3 hg3
  obtain ⟨x3, n3, c3, rfl, hn3, hc3, ho3⟩ := ho3.shapeN
  have HN3 := Lib.hid hn3
  have HB3 := Lib.hid (HB0.out.grown hg3 (by simp; omega) (fun g hh => by have := (HO.out.lt g hh).1; omega))
  have HR3 := Lib.hid (HR.out.grown hg3 (by simp [Value.ownBlock]))
  have HX3 := Lib.hid (HX.out.grown hg3 (by simp [Value.ownBlock]; omega))
  have hz3 := hg3.size
  simp only [World.size_alloc] at hz3
  have HO3 := Lib.hid (ho3.on ((Below.refl _ _).alloc (Nat.le_refl _) (.cells #[.string s] 9)))
  clear hn3 ho3 hg3
  go_wp2_with (at_builtin; refine wpList_app (enc := Value.string) (B := w.heap.size + 1 + 1) (l := l) (m := [s]) rfl _ _ rfl Tryz.underlying30 elemSTR rfl rfl rfl HO3.out (holds_one Value.string 9 w3 s) oneStr (by rw [← HN.out]; simp; omega) (by rw [← HN.out]; unfold maxLen; simp; omega) (by simp; omega) ?_)
  intro v4 w4 ho4 hg4
  obtain ⟨x4, n4, c4, rfl, hn4, hc4, ho4⟩ := ho4.shapeN
  clear hn4
  have HB4 := Lib.hid ((HB3.out.alloc (by omega) (.cells #[.string s] 9)).grown hg4 (by simp; omega) (fun g hh => by have := (HO3.out.lt g hh).1; omega))
  have hne : ∀ g, g ≤ w.heap.size + 1 → some g ≠ (Value.slice x3 n3 c3).ownBlock := fun g hg e => by have := (HO3.out.lt g e.symm).1; omega
  have HR4 := Lib.hid ((HR3.out.alloc (.cells #[.string s] 9)).grown hg4 (hne _ (by omega)))
  have HX4 := Lib.hid ((HX3.out.alloc (.cells #[.string s] 9)).grown hg4 (hne _ (by omega)))
  have hz4 := hg4.size
  simp only [World.size_alloc] at hz4
  have HO4 := Lib.hid (ho4.on ((Below.refl _ _).alloc (Nat.le_refl _) (.cells #[.slice x4 n4 c4] 32)))
  clear ho4 hg4 hne
  go_wp2_with fail
  refine (specValidName _ _ _ HO4.out.holds HBK.out).mono ?_
  rintro e w5 ⟨rfl, hb5⟩
  have HT5 := Lib.hid ((Ret.NC.new' (w := w4) (.slice x4 n4 c4) 32 rfl).on hb5)
  have HR5 := Lib.hid ((HR4.out.alloc (.cells #[.slice x4 n4 c4] 32)).on hb5)
  have HX5 := Lib.hid ((HX4.out.alloc (.cells #[.slice x4 n4 c4] 32)).on hb5)
  have HO5 := Lib.hid (HO4.out.on hb5)
  have HB5 := Lib.hid ((HB4.out.alloc (by omega) (.cells #[.slice x4 n4 c4] 32)).trans (hb5.mono (by simp; omega)))
  have hz5 := hb5.size
  simp only [World.size_alloc] at hz5
  clear hb5
  cases hv : validN (l ++ [s]) with
  | true =>
    have HY := Lib.hid (appN_yes hv)
    have HV := Lib.hid hv
    obtain ⟨hk6, hf6⟩ := HT5.out
    obtain ⟨hk2, hf2⟩ := HR5.out
    obtain ⟨q1, q2, q3⟩ := endN (w := w) (g := w.heap.size + 1) (by omega) (by omega) HO5.out hk2 HB5.out
    have HQ1 := Lib.hid q1; have HQ2 := Lib.hid q2; have HQ3 := Lib.hid q3
    clear q1 q2 q3
    go_wp2
    refine bodyPost_ret (Ret.results_ct rfl _ _ (w.heap.size + 1) [_] rfl aggN (Ret.one HQ1.out)) rfl ?_
    exact ⟨_, ret_nb HV.out.symm, by rw [HY.out]; exact HQ2.out, HQ3.out⟩
  | false =>
    have HY := Lib.hid (appN_no hv)
    have HV := Lib.hid hv
    have hx5 := HX5.out.1
    go_wp2_with fail
    refine (l4Copy _ l _ (HH.out.on HB5.out) (by rw [← HN.out]; exact hll)).mono ?_
    rintro e w6 ⟨v6, rfl, ho6, hb6⟩
    obtain ⟨x6, n6, c6, rfl, hn6, hc6, ho6⟩ := ho6.shapeN
    clear hn6
    have HB6 := Lib.hid (HB5.out.trans (hb6.mono HB5.out.size))
    obtain ⟨hk2, hf2⟩ := HR5.out.on hb6
    obtain ⟨q1, q2, q3⟩ := endN (w := w) (g := w.heap.size + 1) (by omega) (by omega) ho6 hk2 HB6.out
    have HQ1 := Lib.hid q1; have HQ2 := Lib.hid q2; have HQ3 := Lib.hid q3
    clear q1 q2 q3 ho6 hb6
    go_wp2
    refine bodyPost_ret (Ret.results_ct rfl _ _ (w.heap.size + 1) [_] rfl aggN (Ret.one HQ1.out)) rfl ?_
    exact ⟨_, ret_nb HV.out.symm, by rw [HY.out]; exact HQ2.out, HQ3.out⟩
end Go.Proofs.YtlhchmjnaanjpaaGreatDoor.Row
/- Contracts of the reference model's draws of names: what is drawn lies in memory of the call's own; all else but the cursor is as it was. -/
namespace Go.Proofs.YtlhchmjnaanjpaaGreatDoor.Draw
open Go.ChangeShapes Go.WideShapes Go.ChangeAt Go.RowKit Go.Instr
open Go.Proofs.YtlhchmjnaanjpaaGreatDoor.Row (bulk bulk_append bulk_one bulk_nil elemSTR oneStr)
open Go.Proofs.YtlhchmjnaanjpaaGreatDoor.Ret (NC)
set_option linter.unusedVariables false
set_option maxRecDepth 100000
theorem NC.keep {w w' : World} {g p : Nat} {u : Value} (h : NC w g u) (hk : Keep p w w') (hne : g ≠ p) : NC w' g u :=
  ⟨hk.cell h.1 hne, (World.frozen?_of_block (hk.block g h.lt hne)).trans h.2⟩
theorem rown_keep {α : Type} [Inhabited α] {enc : α → Value} {e : TypeId} {B p : Nat} {w w' : World} {x : Value} {m : List α} (h : Row.Own e enc B w x m) (hk : Keep p w w') (hp : p < B) : Row.Own e enc B w' x m := by
  refine ⟨h.1, ?_⟩
  rcases h.2 with h2 | ⟨g, cap, cur, hv, hg, hh, r⟩
  · exact Or.inl h2
  · exact Or.inr ⟨g, cap, cur, hv, hg, by rw [hk.block g (Array.getElem?_eq_some_iff.1 hh).1 (by omega)]; exact hh, r⟩
theorem NC.set_same {w : World} {g : Nat} {u : Value} (h : NC w g u) (v : Value) : NC (w.setCell ⟨g, 0, none⟩ v) g v := ⟨Ret.set_same h.1, by rw [World.frozen?_setCell]; exact h.2⟩
theorem Cur.set {w0 : World} {p : Nat} {v : Value} {l : List UInt8} {w : World} (hc : Cur w0 p v l w) {g : Nat} (hg : w0.heap.size ≤ g) (hp : g ≠ p) (u : Value) : Cur w0 p v l (w.setCell ⟨g, 0, none⟩ u) :=
  hc.grown (Ret.grownBy_set w ⟨g, 0, none⟩ u) (fun q hq => by
    have : g = q := by simpa using hq
    subst this; exact ⟨hg, hp⟩)
theorem Keep.set {p : Nat} {w w1 : World} (hk : Keep p w w1) {g : Nat} (hg : w.heap.size ≤ g) (u : Value) : Keep p w (w1.setCell ⟨g, 0, none⟩ u) :=
  hk.grown (Ret.grownBy_set w1 ⟨g, 0, none⟩ u) (fun q hq => by
    have : g = q := by simpa using hq
    subst this; exact hg)
def NameIn (B K : Nat) (x : Value) (w : World) : Prop := ∃ u m, x = .agg #[u] ∧ Row.Own 9 Value.string B w u m ∧ bulk m ≤ K
end Go.Proofs.YtlhchmjnaanjpaaGreatDoor.Draw
/- Contracts of the reference model's draws of names that may be wrong: what is drawn lies in memory of the call's own; all else but the cursor is as it was. -/
namespace Go.Proofs.YtlhchmjnaanjpaaGreatDoor.Draw
open Go.ChangeShapes Go.WideShapes Go.ChangeAt Go.RowKit Go.Instr
open Go.Proofs.YtlhchmjnaanjpaaGreatDoor.Row (bulk bulk_append bulk_one bulk_nil elemSTR oneStr)
open Go.Proofs.YtlhchmjnaanjpaaGreatDoor.Ret (NC)
set_option linter.unusedVariables false
set_option maxRecDepth 100000
def lenAt (w : World) (g : Nat) : Nat := match w.cell? ⟨g, 0, none⟩ with
  | some (.slice _ n _) => n
  | _ => 0
theorem box_keep {w w' : World} {g p : Nat} {u : Value} {t : TypeId} (h : Ret.Box w g u t) (hk : Keep p w w') (hne : g ≠ p) : Ret.Box w' g u t := (hk.block g h.lt hne).trans h
end Go.Proofs.YtlhchmjnaanjpaaGreatDoor.Draw
/- Plain mathematics of names and their texts, no program in sight: a text is split at its slashes; joined again it is the text; a joined list of parts without slashes is split into the parts; runes and bytes. No conditions. -/
namespace Go.Proofs.YtlhchmjnaanjpaaGreatDoor.Row
open Go.ChangeShapes Go.WideShapes Go.ChangeAt Go.RowKit Go.Instr
set_option linter.unusedVariables false
set_option maxRecDepth 100000
def bl (s : ByteArray) : List UInt8 := s.data.toList
def mk (l : List UInt8) : ByteArray := ⟨l.toArray⟩
theorem mk_bl (s : ByteArray) : mk (bl s) = s := by
  show ByteArray.mk (s.data.toList.toArray) = s
  rw [Array.toArray_toList]
theorem bl_mk (l : List UInt8) : bl (mk l) = l := by
  show (l.toArray).toList = l
  rfl
theorem bl_length (s : ByteArray) : (bl s).length = s.size := by
  show s.data.toList.length = s.data.size
  exact Array.length_toList
theorem bl_inj {a b : ByteArray} (h : bl a = bl b) : a = b := by rw [← mk_bl a, ← mk_bl b, h]
theorem bl_get (s : ByteArray) (i : Nat) (h : i < s.size) : (bl s)[i]'(by rw [bl_length]; exact h) = s[i]'h := by
  simp [bl]; rfl
theorem mk_size (l : List UInt8) : (mk l).size = l.length := by
  show l.toArray.size = l.length
  exact List.size_toArray
def goS (cur : List UInt8) : List UInt8 → List (List UInt8)
  | [] => [cur]
  | c :: t => if c = 47 then cur :: goS [] t else goS (cur ++ [c]) t
theorem goS_ne : ∀ (t cur : List UInt8), goS cur t ≠ []
  | [], cur => by simp [goS]
  | c :: t, cur => by
    unfold goS; split
    · simp
    · exact goS_ne t _
theorem goS_free : ∀ (p cur rest : List UInt8), (∀ c ∈ p, c ≠ 47) → goS cur (p ++ rest) = goS (cur ++ p) rest
  | [], cur, rest, _ => by simp
  | c :: p, cur, rest, h => by
    have hc := h c (by simp)
    rw [List.cons_append, goS, if_neg hc, goS_free p _ rest (fun d hd => h d (by simp [hd]))]
    simp
theorem join_cons2 (x y : List UInt8) (r : List (List UInt8)) : Lib.join (x :: y :: r) [47] = x ++ 47 :: Lib.join (y :: r) [47] := by
  rw [Lib.join_cons, Lib.join_cons]
  simp [Lib.joinTail]
theorem join_goS : ∀ (t cur : List UInt8), Lib.join (goS cur t) [47] = cur ++ t
  | [], cur => by simp [goS, Lib.join_one]
  | c :: t, cur => by
    unfold goS; split
    · rename_i h
      obtain ⟨y, r, hy⟩ : ∃ y r, goS [] t = y :: r := by
        cases hg : goS [] t with
        | nil => exact absurd hg (goS_ne t [])
        | cons y r => exact ⟨y, r, rfl⟩
      have := join_goS t []
      rw [hy] at this ⊢
      rw [join_cons2, this, h]; simp
    · rw [join_goS t]; simp
theorem goS_join : ∀ (P : List (List UInt8)), P ≠ [] → (∀ p ∈ P, ∀ c ∈ p, c ≠ 47) → goS [] (Lib.join P [47]) = P
  | [], h, _ => absurd rfl h
  | [x], _, hf => by
    have := goS_free x [] [] (hf x (by simp))
    rw [List.append_nil] at this
    rw [Lib.join_one, this]; simp [goS]
  | x :: y :: r, _, hf => by
    rw [join_cons2, goS_free x [] _ (hf x (by simp)), goS, if_pos rfl, goS_join (y :: r) (by simp) (fun p hp => hf p (by simp [hp]))]
    simp
def fmtL (l : List ByteArray) : List UInt8 := 47 :: Lib.join (l.map bl) [47]
def fmtS (l : List ByteArray) : ByteArray := mk (fmtL l)
def splitB (s : ByteArray) : List ByteArray := (goS [] (bl s)).map mk
def fullB (s : ByteArray) : Bool := decide (s.size ≠ 0)
def partsB (s : ByteArray) : List ByteArray := (splitB s).filter fullB
def pOk (s : ByteArray) : Bool := validN (partsB s) && decide (fmtS (partsB s) = s)
def pN (s : ByteArray) : List ByteArray := if pOk s = true then partsB s else []
theorem map_bl_mk (L : List (List UInt8)) : (L.map mk).map bl = L := by
  rw [List.map_map]
  have : (bl ∘ mk) = id := funext fun l => bl_mk l
  rw [this, List.map_id]
theorem map_mk_bl (L : List ByteArray) : (L.map bl).map mk = L := by
  rw [List.map_map]
  have : (mk ∘ bl) = id := funext fun l => mk_bl l
  rw [this, List.map_id]
theorem valid_free {p : ByteArray} (h : validP p = true) : ∀ c ∈ bl p, c ≠ 47 := by
  intro c hc e
  obtain ⟨i, hi, rfl⟩ := List.getElem_of_mem hc
  rw [bl_length] at hi
  have h1 := (validP_iff.1 h).2.2 i hi hi
  rw [bl_get p i hi] at e
  rw [e] at h1
  simp [okR] at h1
theorem valid_full {p : ByteArray} (h : validP p = true) : fullB p = true := by
  have := (validP_iff.1 h).1
  unfold fullB; exact decide_eq_true (by omega)
theorem filter_valid {l : List ByteArray} (h : validN l = true) : l.filter fullB = l := by
  rw [List.filter_eq_self]
  exact fun p hp => valid_full ((validN_iff.1 h).2 p hp)
theorem free_of_valid {l : List ByteArray} (h : validN l = true) : ∀ p ∈ l.map bl, ∀ c ∈ p, c ≠ 47 := by
  intro p hp
  obtain ⟨q, hq, rfl⟩ := List.mem_map.1 hp
  exact valid_free ((validN_iff.1 h).2 q hq)
theorem fmtS_nil : fmtS [] = mk [47] := by simp [fmtS, fmtL, Lib.join_nil]
theorem split_fmt {l : List ByteArray} (h : validN l = true) (hl : l ≠ []) : splitB (fmtS l) = mk [] :: l := by
  unfold splitB fmtS fmtL
  rw [bl_mk, goS, if_pos rfl, goS_join (l.map bl) (by simpa using hl) (free_of_valid h), List.map_cons, map_mk_bl]
theorem parts_fmt {l : List ByteArray} (h : validN l = true) : partsB (fmtS l) = l := by
  by_cases hl : l = []
  · subst hl
    rw [fmtS_nil]
    unfold partsB splitB
    rw [bl_mk]
    simp [goS, fullB, mk_size]
  · unfold partsB
    rw [split_fmt h hl, List.filter_cons_of_neg (by simp [fullB, mk_size]), filter_valid h]
theorem pOk_fmt {l : List ByteArray} (h : validN l = true) : pOk (fmtS l) = true := by
  unfold pOk; rw [parts_fmt h, h]; simp
theorem pN_fmt {l : List ByteArray} (h : validN l = true) : pN (fmtS l) = l := by
  unfold pN; rw [if_pos (pOk_fmt h), parts_fmt h]
theorem pOk_iff {s : ByteArray} : pOk s = true ↔ validN (partsB s) = true ∧ fmtS (partsB s) = s := by unfold pOk; simp
theorem pN_yes {s : ByteArray} (h : pOk s = true) : pN s = partsB s := if_pos h
theorem pN_no {s : ByteArray} (h : pOk s = false) : pN s = [] := if_neg (by simp [h])
theorem valid_pN (s : ByteArray) : validN (pN s) = true := by
  cases h : pOk s with
  | true => rw [pN_yes h]; exact (pOk_iff.1 h).1
  | false => rw [pN_no h]; decide
theorem pOk_slash : pOk (mk [47]) = true ∧ pN (mk [47]) = [] := by
  have h : validN [] = true := by decide
  rw [← fmtS_nil]
  exact ⟨pOk_fmt h, pN_fmt h⟩
theorem split_yes {s : ByteArray} {rest : List ByteArray} (h : splitB s = mk [] :: rest) (hr : rest ≠ []) (hv : validN rest = true) : pOk s = true ∧ pN s = rest := by
  have hs : fmtS rest = s := by
    apply bl_inj
    have h1 : goS [] (bl s) = [] :: rest.map bl := by
      have := congrArg (List.map bl) h
      unfold splitB at this
      rw [map_bl_mk, List.map_cons, bl_mk] at this
      exact this
    have h2 := join_goS (bl s) []
    rw [h1] at h2
    obtain ⟨y, r, rfl⟩ : ∃ y r, rest = y :: r := by
      cases rest with
      | nil => exact absurd rfl hr
      | cons y r => exact ⟨y, r, rfl⟩
    rw [List.map_cons, join_cons2, ← List.map_cons] at h2
    unfold fmtS fmtL
    rw [bl_mk]
    exact h2
  rw [← hs]
  exact ⟨pOk_fmt hv, pN_fmt hv⟩
theorem split_no {s : ByteArray} (h47 : s ≠ mk [47]) (h : ∀ rest, splitB s = mk [] :: rest → rest ≠ [] → validN rest = false) : pOk s = false := by
  cases hp : pOk s with
  | false => rfl
  | true =>
    obtain ⟨h1, h2⟩ := pOk_iff.1 hp
    by_cases he : partsB s = []
    · rw [he, fmtS_nil] at h2
      exact absurd h2.symm h47
    · have h3 := split_fmt h1 he
      rw [h2] at h3
      have h4 := h _ h3 he
      rw [h1] at h4; cases h4
def seg (s : ByteArray) (f i : Nat) : List UInt8 := ((bl s).drop f).take (i - f)
def rest (s : ByteArray) (i : Nat) : List UInt8 := (bl s).drop i
theorem rest_end (s : ByteArray) : rest s s.size = [] := by unfold rest; rw [← bl_length]; simp
theorem rest_cons (s : ByteArray) {i : Nat} (h : i < s.size) : rest s i = s[i]'h :: rest s (i + 1) := by
  unfold rest
  rw [List.drop_eq_getElem_cons (by rw [bl_length]; exact h), bl_get s i h]
theorem seg_self (s : ByteArray) (i : Nat) : seg s i i = [] := by simp [seg]
theorem seg_succ (s : ByteArray) {f i : Nat} (hf : f ≤ i) (h : i < s.size) : seg s f (i + 1) = seg s f i ++ [s[i]'h] := by
  unfold seg
  have e : i + 1 - f = (i - f) + 1 := by omega
  rw [e, List.take_add_one, List.getElem?_drop, show f + (i - f) = i by omega, List.getElem?_eq_getElem (by rw [bl_length]; exact h), bl_get s i h]
  rfl
theorem seg_length (s : ByteArray) {f i : Nat} (hf : f ≤ i) (h : i ≤ s.size) : (seg s f i).length = i - f := by
  unfold seg; rw [List.length_take, List.length_drop, bl_length]; omega
theorem extract_seg (s : ByteArray) (f i : Nat) : s.extract f i = mk (seg s f i) := by
  conv => lhs; rw [← mk_bl s]
  exact ByteArray.extract_mk (bl s) f i
theorem goS_slash (s : ByteArray) {f i : Nat} (h : i < s.size) (hc : s[i]'h = 47) : goS (seg s f i) (rest s i) = seg s f i :: goS (seg s (i + 1) (i + 1)) (rest s (i + 1)) := by
  rw [rest_cons s h, goS, if_pos hc, seg_self]
theorem goS_byte (s : ByteArray) {f i : Nat} (hf : f ≤ i) (h : i < s.size) (hc : s[i]'h ≠ 47) : goS (seg s f i) (rest s i) = goS (seg s f (i + 1)) (rest s (i + 1)) := by
  rw [rest_cons s h, goS, if_neg hc, seg_succ s hf h]
theorem goS_end (s : ByteArray) (f : Nat) : goS (seg s f s.size) (rest s s.size) = [seg s f s.size] := by rw [rest_end]; rfl
theorem goS_bytes (s : ByteArray) {f i : Nat} (hf : f ≤ i) : ∀ m, (hm : i + m ≤ s.size) → (∀ j (hj : j < m), s[i + j]'(by omega) ≠ 47) → goS (seg s f i) (rest s i) = goS (seg s f (i + m)) (rest s (i + m))
  | 0, _, _ => rfl
  | m + 1, hm, hc => by
    rw [goS_bytes s hf m (by omega) (fun j hj => hc j (by omega)), goS_byte s (by omega) (by omega) (hc m (by omega))]
    rfl
end Go.Proofs.YtlhchmjnaanjpaaGreatDoor.Row
/- Contracts of the functions that split a text at its slashes, the program's (without the empty pieces, rune by rune) and the reference model's (all pieces, byte by byte). No conditions but that lengths fit. -/
namespace Go.Proofs.YtlhchmjnaanjpaaGreatDoor.Row
open Go.ChangeShapes Go.WideShapes Go.ChangeAt Go.RowKit Go.Instr
set_option linter.unusedVariables false
set_option maxRecDepth 100000
theorem natne {a b : Nat} (h : a ≠ b) : ((a : Int) == (b : Int)) = false := beq_eq_false_iff_ne.2 (by omega)
theorem nat47 {x : Nat} (h : x ≠ 47) : ((x : Int) == 47) = false := beq_eq_false_iff_ne.2 (by omega)
theorem byte47 {c : UInt8} : c = 47 ↔ c.toNat = 47 := by
  constructor
  · rintro rfl; rfl
  · intro h; apply UInt8.toNat_inj.1; rw [h]; rfl
def SpI (s : ByteArray) (k f : Nat) (L : List ByteArray) : Prop :=
  (k ≤ s.size → splitB s = L ++ (goS (seg s f k) (rest s k)).map mk) ∧ (k = s.size + 1 → splitB s = L)
theorem SpI.start (s : ByteArray) : SpI s 0 0 [] := ⟨fun _ => by unfold splitB; rw [seg_self]; rfl, fun h => by omega⟩
theorem SpI.cut {s : ByteArray} {k f : Nat} {L : List ByteArray} (h : SpI s k f L) (hk : k ≤ s.size) (hf : f ≤ k) (hc : ∀ h : k < s.size, s[k]'h = 47) : SpI s (k + 1) (k + 1) (L ++ [s.extract f k]) := by
  have h1 := h.1 hk
  by_cases hl : k < s.size
  · rw [goS_slash s hl (hc hl)] at h1
    refine ⟨fun _ => ?_, fun e => by omega⟩
    rw [h1, extract_seg]; simp
  · obtain rfl : k = s.size := by omega
    rw [goS_end] at h1
    refine ⟨fun e => by omega, fun _ => ?_⟩
    rw [h1, extract_seg]; simp
theorem SpI.on {s : ByteArray} {k f : Nat} {L : List ByteArray} (h : SpI s k f L) (hf : f ≤ k) (hl : k < s.size) (hc : s[k]'hl ≠ 47) : SpI s (k + 1) f L := by
  have h1 := h.1 (by omega)
  rw [goS_byte s hf hl hc] at h1
  exact ⟨fun _ => h1, fun e => by omega⟩
set_option maxHeartbeats 2000000 in
theorem l4Split (s : ByteArray) (w : World) (hs : s.size ≤ 10000000) :
    Calls Tryz.prog 139 #[.string s, .int .u8 47] w (GivesS w (splitB s)) := by
  have H0 := Lib.hid (own_empty Value.string 9 w)
  have B0 := Lib.hid ((Below.refl w.heap.size w).alloc (Nat.le_refl _) (.cells #[] 9))
  go_enter Tryz.func139, Tryz.ntmps139
  go_wp2_with fail
  go_loopw [5, 6, 7] (fun rv fv iv wr => ∃ (k f m : Nat) (L : List ByteArray), k ≤ s.size + 1 ∧ f ≤ k ∧ m ≤ k ∧ iv = .int .i64 k ∧ fv = .int .i64 f ∧ Hid (L.length = m) ∧ Hid (Own 9 Value.string w.heap.size wr rv L) ∧ Hid (Below w.heap.size w wr) ∧ Hid (SpI s k f L)) (fun _ _ iv _ => s.size + 1 - (intOf iv).toNat)
  case atStart => exact ⟨0, 0, 0, [], by omega, Nat.le_refl _, Nat.le_refl _, rfl, rfl, Lib.hid rfl, H0, B0, Lib.hid (SpI.start s)⟩
  case round =>
    obtain ⟨k, f, m, L, hk, hf, hm, rfl, rfl, hL, ho, hb, hI⟩ := hrel
    by_cases hle : k ≤ s.size
    · by_cases hcut : ∀ h : k < s.size, s[k]'h = 47
      · have HI2 := Lib.hid (hI.out.cut hle hf hcut)
        have HO := Lib.hid (ho.out.on ((Below.refl _ _).alloc (Nat.le_refl _) (.cells #[.string (s.extract f k)] 9)))
        have HL2 := Lib.hid (show (L ++ [s.extract f k]).length = m + 1 by rw [List.length_append, hL.out]; rfl)
        have hlm : (L.length + [s.extract f k].length) * 16 ≤ 140737488355328 := by rw [hL.out]; simp; omega
        have hlx : L.length + [s.extract f k].length ≤ maxLen := by rw [hL.out]; unfold maxLen; simp; omega
        have HLM := Lib.hid hlm; have HLX := Lib.hid hlx
        clear hlm hlx
        by_cases hlt : k < s.size
        · have hne : ((k : Int) == (s.size : Int)) = false := natne (Nat.ne_of_lt hlt)
          have hb47 : (((s[k]'hlt).toNat : Int) == 47) = true := by
            have := byte47.1 (hcut hlt)
            rw [this]; rfl
          clear hcut
          go_wp2_with (at_builtin; refine wpList_app (enc := Value.string) (B := w.heap.size) (l := L) (m := [s.extract f k]) rfl _ _ rfl Tryz.underlying30 elemSTR rfl rfl rfl HO.out (holds_one Value.string 9 _ _) oneStr HLM.out HLX.out (Nat.le_trans hb.out.size (by simp)) ?_)
          intro v2 w2 ho2 hg2
          have HO2 := Lib.hid ho2
          have HB2 := Lib.hid ((hb.out.alloc hb.out.size (.cells #[.string (s.extract f k)] 9)).grown hg2 (Nat.le_trans hb.out.size (by simp)) (fun g hh => (HO.out.lt g hh).1))
          clear ho2 hg2
          go_wp2_with fail
          go_roundw
          case rel => exact ⟨k + 1, k + 1, m + 1, _, by omega, Nat.le_refl _, by omega, by go_num, by go_num, HL2, HO2, HB2, HI2⟩
          case measure => simp [intOf]; omega
        · obtain rfl : k = s.size := by omega
          clear hcut
          go_wp2_with (at_builtin; refine wpList_app (enc := Value.string) (B := w.heap.size) (l := L) (m := [s.extract f s.size]) rfl _ _ rfl Tryz.underlying30 elemSTR rfl rfl rfl HO.out (holds_one Value.string 9 _ _) oneStr HLM.out HLX.out (Nat.le_trans hb.out.size (by simp)) ?_)
          intro v2 w2 ho2 hg2
          have HO2 := Lib.hid ho2
          have HB2 := Lib.hid ((hb.out.alloc hb.out.size (.cells #[.string (s.extract f s.size)] 9)).grown hg2 (Nat.le_trans hb.out.size (by simp)) (fun g hh => (HO.out.lt g hh).1))
          clear ho2 hg2
          go_wp2_with fail
          go_roundw
          case rel => exact ⟨s.size + 1, s.size + 1, m + 1, _, by omega, Nat.le_refl _, by omega, by go_num, by go_num, HL2, HO2, HB2, HI2⟩
          case measure => simp [intOf]
      · have hlt : k < s.size := by
          by_cases h : k < s.size
          · exact h
          · exact absurd (fun h2 => absurd h2 h) hcut
        have hc : s[k]'hlt ≠ 47 := fun e => hcut (fun _ => e)
        have HI2 := Lib.hid (hI.out.on hf hlt hc)
        have hne : ((k : Int) == (s.size : Int)) = false := natne (Nat.ne_of_lt hlt)
        have hb47 : (((s[k]'hlt).toNat : Int) == 47) = false := nat47 (fun e => hc (byte47.2 e))
        clear hcut hc
        go_wp2_with fail
        go_roundw
        case rel => exact ⟨k + 1, f, m, L, by omega, by omega, by omega, by go_num, rfl, hL, ho, hb, HI2⟩
        case measure => simp [intOf]; omega
    · obtain rfl : k = s.size + 1 := by omega
      have HE := Lib.hid (hI.out.2 rfl)
      clear hle
      go_wp2_with fail
      go_ret
      exact ⟨_, rfl, by rw [HE.out]; exact ho.out, hb.out⟩
def SpN (s : ByteArray) (k f : Nat) (L : List ByteArray) : Prop :=
  (k ≤ s.size → partsB s = L ++ ((goS (seg s f k) (rest s k)).map mk).filter fullB) ∧ (k = s.size + 1 → partsB s = L)
theorem SpN.start (s : ByteArray) : SpN s 0 0 [] := ⟨fun _ => by unfold partsB splitB; rw [seg_self]; rfl, fun h => by omega⟩
theorem seg_full {s : ByteArray} {f k : Nat} (hf : f ≤ k) (hk : k ≤ s.size) : fullB (mk (seg s f k)) = decide (f < k) := by
  unfold fullB
  rw [mk_size, seg_length s hf hk]
  congr 1
  apply propext; omega
theorem SpN.cut {s : ByteArray} {k f : Nat} {L : List ByteArray} (h : SpN s k f L) (hk : k ≤ s.size) (hf : f ≤ k) (hc : ∀ h : k < s.size, s[k]'h = 47) : SpN s (k + 1) (k + 1) (if f < k then L ++ [s.extract f k] else L) := by
  have h1 := h.1 hk
  have hfull := seg_full (s := s) hf hk
  by_cases hl : k < s.size
  · rw [goS_slash s hl (hc hl), List.map_cons, List.filter_cons, hfull] at h1
    refine ⟨fun _ => ?_, fun e => by omega⟩
    rw [h1, extract_seg]
    by_cases hfk : f < k
    · simp [hfk]
    · simp [hfk]
  · obtain rfl : k = s.size := by omega
    rw [goS_end, List.map_cons, List.filter_cons, hfull] at h1
    refine ⟨fun e => by omega, fun _ => ?_⟩
    rw [h1, extract_seg]
    by_cases hfk : f < s.size
    · simp [hfk]
    · simp [hfk]
theorem SpN.on {s : ByteArray} {k f : Nat} {L : List ByteArray} (h : SpN s k f L) (hf : f ≤ k) {m : Nat} (h0 : 1 ≤ m) (hm : k + m ≤ s.size) (hc : ∀ j (hj : j < m), s[k + j]'(by omega) ≠ 47) : SpN s (k + m) f L := by
  have h1 := h.1 (by omega)
  rw [goS_bytes s hf m hm hc] at h1
  exact ⟨fun _ => h1, fun e => by omega⟩
end Go.Proofs.YtlhchmjnaanjpaaGreatDoor.Row
/- Contracts of ParseName, the program's and the reference model's. No conditions but that lengths fit. -/
namespace Go.Proofs.YtlhchmjnaanjpaaGreatDoor.Row
open Go.ChangeShapes Go.WideShapes Go.ChangeAt Go.RowKit Go.Instr
set_option linter.unusedVariables false
set_option maxRecDepth 100000
theorem bulk_goS : ∀ (t cur : List UInt8), bulk ((goS cur t).map mk) = cur.length + t.length + 1
  | [], cur => by simp [goS, bulk_one, mk_size]; omega
  | c :: t, cur => by
    unfold goS
    split
    · rw [List.map_cons, bulk_cons, bulk_goS t, mk_size]; simp; omega
    · rw [bulk_goS t]; simp; omega
theorem bulk_split (s : ByteArray) : bulk (splitB s) = s.size + 1 := by
  unfold splitB; rw [bulk_goS, bl_length]; simp
theorem split_pos (s : ByteArray) : 0 < (splitB s).length := by
  unfold splitB; rw [List.length_map]
  exact List.length_pos_iff.2 (goS_ne _ _)
theorem tl47 : (mk [47]).toList = [47] := ByteArray.toList_mk [47]
theorem tl0 : (mk []).toList = [] := ByteArray.toList_mk []
end Go.Proofs.YtlhchmjnaanjpaaGreatDoor.Row
/- Helpers for the model's draws of structs of names: slices of texts that lie in blocks which hold texts alone (holdS_set, holdS_keep), names out of texts. What was in memory stays as it was, but for the cursor. -/
namespace Go.Proofs.YtlhchmjnaanjpaaGreatDoor.Draw
open Go.ChangeShapes Go.WideShapes Go.ChangeAt Go.RowKit Go.Instr
open Go.Proofs.YtlhchmjnaanjpaaGreatDoor.Row (bulk bulk_append bulk_one bulk_nil bulk_cons)
open Go.Proofs.YtlhchmjnaanjpaaGreatDoor.Ret (NC Blk Box)
set_option linter.unusedVariables false
set_option maxRecDepth 100000
theorem Cur.setI {w0 : World} {p : Nat} {v : Value} {l : List UInt8} {w : World} (hc : Cur w0 p v l w) {g : Nat} (i : Nat) (hg : w0.heap.size ≤ g) (hp : g ≠ p) (u : Value) : Cur w0 p v l (w.setCell ⟨g, i, none⟩ u) :=
  hc.grown (Ret.grownBy_set w ⟨g, i, none⟩ u) (fun q hq => by
    have : q = g := by simpa using hq.symm
    exact ⟨by omega, by omega⟩)
theorem Keep.setI {p : Nat} {w w1 : World} (hk : Keep p w w1) {g : Nat} (i : Nat) (hg : w.heap.size ≤ g) (u : Value) : Keep p w (w1.setCell ⟨g, i, none⟩ u) :=
  hk.grown (Ret.grownBy_set w1 ⟨g, i, none⟩ u) (fun q hq => by
    have : q = g := by simpa using hq.symm
    omega)
theorem blk_keep {w w' : World} {g p : Nat} {cs : Array Value} {t : TypeId} (h : Blk w g cs t) (hk : Keep p w w') (hne : g ≠ p) : Blk w' g cs t := (hk.block g h.lt hne).trans h
theorem own_ne_blk {α : Type} [Inhabited α] {enc : α → Value} {e t : TypeId} {B g : Nat} {w : World} {v : Value} {l : List α} {cs : Array Value} (h : Row.Own e enc B w v l) (hb : Blk w g cs t) (hne : e ≠ t) : ∀ q, v.ownBlock = some q → q ≠ g := by
  intro q hq e1
  subst e1
  rcases h.2 with h2 | ⟨g2, cap, cur, hv, hg, hh, r⟩
  · rw [h2.1] at hq; cases hq
  · rw [hv] at hq
    obtain rfl : g2 = q := Option.some.inj hq
    have h3 : w.heap[g2]? = some (.cells cs t) := hb
    rw [hh] at h3
    have h4 := Option.some.inj h3
    injection h4 with h5 h6 h7
    exact hne h6
theorem rown_setT {α : Type} [Inhabited α] {enc : α → Value} {e t : TypeId} {B g i : Nat} {w : World} {v u : Value} {l : List α} {cs : Array Value} (h : Row.Own e enc B w v l) (hb : Blk w g cs t) (hne : e ≠ t) : Row.Own e enc B (w.setCell ⟨g, i, none⟩ u) v l :=
  h.grown (Ret.grownBy_set w ⟨g, i, none⟩ u) (by
    cases hv : v.ownBlock with
    | none => exact Or.inl rfl
    | some q => exact Or.inr fun e => own_ne_blk h hb hne q hv (Option.some.inj e))
def NoStr (cs : Array Value) : Prop := ∀ (i : Nat) (s : ByteArray), cs[i]? ≠ some (.string s)
end Go.Proofs.YtlhchmjnaanjpaaGreatDoor.Draw
/- Names that lie in blocks of texts: what keeps them; the reference model's ParseName and l4Of in these words. No conditions but that lengths fit. -/
namespace Go.Proofs.YtlhchmjnaanjpaaGreatDoor.Row
open Go.ChangeShapes Go.WideShapes Go.ChangeAt Go.RowKit Go.Instr
set_option linter.unusedVariables false
set_option maxRecDepth 100000
def TY (w : World) (g : Nat) : Prop := ∃ cur, w.heap[g]? = some (.cells cur 9 (0, 0))
theorem TY.lt {w : World} {g : Nat} (h : TY w g) : g < w.heap.size := by
  obtain ⟨cur, h⟩ := h
  exact (Array.getElem?_eq_some_iff.1 h).1
theorem TY.on {w w' : World} {g : Nat} (h : TY w g) (hb : Below w.heap.size w w') : TY w' g := by
  have hl := h.lt
  obtain ⟨cur, h⟩ := h
  exact ⟨cur, (hb.block g hl).trans h⟩
theorem TY.set {w : World} {g b i : Nat} {u : Value} (h : TY w g) (hne : b ≠ g) : TY (w.setCell ⟨b, i, none⟩ u) g := by
  obtain ⟨cur, h⟩ := h
  exact ⟨cur, (Go.RowKit.Below.heap_setCell w ⟨b, i, none⟩ u g (fun e => hne e.symm)).trans h⟩
def HB (B : Nat) (w : World) (v : Value) (l : List ByteArray) : Prop := Holds Value.string w v l ∧ ∀ b off n c, v = .slice (some ⟨b, off, none⟩) n c → B ≤ b ∧ TY w b
section
variable {B : Nat} {w w' : World} {v : Value} {l : List ByteArray}
theorem HB.holds (h : HB B w v l) : Holds Value.string w v l := h.1
theorem HB.nil (B : Nat) (w : World) : HB B w (.slice none 0 0) [] := ⟨Holds.nil _ _, fun b off n c e => by cases e⟩
theorem HB.of (h : Own 9 Value.string B w v l) : HB B w v l := ⟨h.holds, fun b off n c e => by
  rcases h.2 with ⟨h2, _⟩ | ⟨g, cap, cur, hv, hB, hc, _⟩
  · rw [h2] at e; cases e
  · rw [hv] at e
    cases e
    exact ⟨hB, cur, hc⟩⟩
theorem HB.mono (h : HB B w v l) {B' : Nat} (hB : B' ≤ B) : HB B' w v l := ⟨h.1, fun b off n c e => ⟨Nat.le_trans hB (h.2 b off n c e).1, (h.2 b off n c e).2⟩⟩
theorem HB.on (h : HB B w v l) (hb : Below w.heap.size w w') : HB B w' v l := ⟨h.1.on hb, fun b off n c e => ⟨(h.2 b off n c e).1, (h.2 b off n c e).2.on hb⟩⟩
theorem HB.same (h : HB B w v l) (hg : ∀ g, B ≤ g → TY w g → w'.heap[g]? = w.heap[g]?) : HB B w' v l := by
  have hty := h.2
  obtain ⟨x, cap, hv, hc, hh⟩ := h.1
  refine ⟨⟨x, cap, hv, hc, ?_⟩, fun b off n c e => ?_⟩
  · rcases hh with h0 | ⟨b, off, rfl, hcell⟩
    · exact Or.inl h0
    · refine Or.inr ⟨b, off, rfl, fun j hj => ?_⟩
      obtain ⟨h1, h2⟩ := hty b off _ _ hv
      rw [World.cell?_of_block (w := w) (hg b h1 h2)]
      exact hcell j hj
  · obtain ⟨h1, h2⟩ := hty b off n c e
    refine ⟨h1, ?_⟩
    have := hg b h1 h2
    obtain ⟨cur, h2⟩ := h2
    exact ⟨cur, this.trans h2⟩
theorem HB.setT (h : HB B w v l) {g i : Nat} {cs : Array Value} {t : TypeId} {u : Value} (hb : Ret.Blk w g cs t) (hne : t ≠ 9) : HB B (w.setCell ⟨g, i, none⟩ u) v l :=
  h.same fun q _ ⟨cur, hq⟩ => Go.RowKit.Below.heap_setCell w ⟨g, i, none⟩ u q (fun e => by
    have e1 : q = g := e
    rw [e1, show w.heap[g]? = some (.cells cs t) from hb] at hq
    cases hq
    exact hne rfl)
theorem HB.grownK (h : HB B w v l) {α : Type} {enc : α → List Value} {sz B' : Nat} {e : TypeId} {u : Value} {m : List α} (ho : OwnK e enc sz B' w u m) (hne : e ≠ 9) (hg : w.grownBy w' u.ownBlock) : HB B w' v l :=
  h.same fun q _ ⟨cur, hq⟩ => hg.block q (Array.getElem?_eq_some_iff.1 hq).1 (fun e1 => by
    rcases ho.2 with ⟨h2, _⟩ | ⟨g, cap, cur2, hv, _, hc, _⟩
    · rw [h2] at e1; cases e1
    · rw [hv] at e1
      have e2 : q = g := by simpa [Value.ownBlock] using e1
      rw [e2, hc] at hq
      cases hq
      exact hne rfl)
theorem HB.shapeN (h : HB B w v l) : ∃ x n cap, v = .slice x n cap ∧ n = l.length ∧ HB B w (.slice x n cap) l := by
  obtain ⟨x, n, cap, rfl, hn, -, -⟩ := h.1.shapeN
  exact ⟨x, n, cap, rfl, hn, h⟩
end
def GivesN9 (w : World) (l : List ByteArray) (b : Bool) (e : Ending) (w' : World) : Prop := ∃ v, e = .returned (.tuple #[.agg #[v], .bool b]) ∧ HB w.heap.size w' v l ∧ Below w.heap.size w w'
set_option maxHeartbeats 2000000 in
theorem specParseNameB (s : ByteArray) (w : World) (hs : s.size ≤ 10000000) :
    Calls Tryz.prog 93 #[.string s] w (GivesN9 w (pN s) (pOk s)) := by
  have HB0 := Lib.hid ((Below.refl w.heap.size w).alloc (Nat.le_refl _) (.cells #[.slice none 0 0] 32))
  have HR := Lib.hid (Ret.NC.new' (w := w) (.slice none 0 0) 32 rfl)
  by_cases h47 : s = mk [47]
  · obtain ⟨p1, p2⟩ := pOk_slash
    rw [← h47] at p1 p2
    have HP := Lib.hid p1; have HPN := Lib.hid p2
    have hq : (s.toList == [47]) = true := by rw [h47, tl47]; rfl
    clear p1 p2 h47
    go_enter Tryz.func93, Tryz.ntmps93
    go_wp2
    refine bodyPost_ret (Ret.results_ct rfl _ _ w.heap.size [_] rfl aggN (Ret.one HR.out.1)) rfl ?_
    exact ⟨_, ret_nb HP.out.symm, by rw [HPN.out]; exact HB.nil _ _, HB0.out⟩
  · have h47l : s.toList ≠ [47] := fun e => h47 (toList_inj (e.trans tl47.symm))
    have hq : (s.toList == [47]) = false := by simpa using h47l
    have H47 := Lib.hid h47
    have hpos := split_pos s
    have hbk := bulk_split s
    have hlb := bulk_len (splitB s)
    obtain ⟨n, hn⟩ : ∃ n, n = (splitB s).length := ⟨_, rfl⟩
    rw [← hn] at hpos hlb
    have hnb : n ≤ 10000001 := by omega
    have HN := Lib.hid hn
    have HBK := Lib.hid hbk
    clear h47 h47l hn hbk hlb
    go_enter Tryz.func93, Tryz.ntmps93
    go_wp2_with fail
    refine (l4Split s _ hs).mono ?_
    rintro e w1 ⟨v1, rfl, ho1, hb1⟩
    have HB1 := Lib.hid (HB0.out.trans (hb1.mono HB0.out.size))
    have HR1 := Lib.hid (HR.out.on hb1)
    have hty9 : ∀ b off n c, v1 = .slice (some ⟨b, off, none⟩) n c → TY w1 b := fun b off n c e => ((HB.of ho1).2 b off n c e).2
    obtain ⟨g, c1, rfl, hg1, hg2, hc1⟩ : ∃ g c1, v1 = .slice (some ⟨g, 0, none⟩) n c1 ∧ w.heap.size + 1 ≤ g ∧ g < w1.heap.size ∧ n ≤ c1 := by
      rcases ho1.form with ⟨_, h2⟩ | ⟨g, c1, h1, h2, h3, h4, h5⟩
      · exact absurd (congrArg List.length h2) (by rw [← HN.out]; simp; omega)
      · exact ⟨g, c1, by rw [h1, HN.out], by simpa using h2, h3, by rw [HN.out]; exact h4⟩
    have HH1 := Lib.hid ho1.holds
    have HTY := Lib.hid (hty9 g 0 n c1 rfl)
    clear ho1 hb1 hty9
    by_cases h2 : n = 1
    · subst h2
      have HP := Lib.hid (split_no H47.out (fun rest h hr => by
        have h3 := HN.out
        rw [h] at h3
        simp at h3
        exact absurd h3 hr))
      have HPN := Lib.hid (pN_no HP.out)
      by_cases hc : c1 = 1
      · subst hc
        obtain ⟨hk2, hf2⟩ := HR1.out.alloc (.cells #[.slice (some ⟨g, 0, none⟩) 0 0] 32)
        obtain ⟨q1, q2, q3⟩ := endN (w := w) (g := w.heap.size) (B := w.heap.size + 1) (v := .slice none 0 0) (l := []) (by omega) (by omega) (Own.nil _ _ _ _) hk2 (HB1.out.alloc HB1.out.size (.cells #[.slice (some ⟨g, 0, none⟩) 0 0] 32))
        have HQ1 := Lib.hid q1; have HQ2 := Lib.hid q2; have HQ3 := Lib.hid q3
        clear q1 q2 q3
        go_wp2
        refine bodyPost_ret (Ret.results_ct rfl _ _ w.heap.size [_] rfl aggN (Ret.one HQ1.out)) rfl ?_
        exact ⟨_, ret_nb HP.out.symm, by rw [HPN.out]; exact HB.of HQ2.out, HQ3.out⟩
      · have hc2 : ¬ c1 - 1 = 0 := by omega
        obtain ⟨hk2, hf2⟩ := HR1.out.alloc (.cells #[.slice (some ⟨g, 1, none⟩) 0 (c1 - 1)] 32)
        obtain ⟨q1, q2, q3⟩ := endN (w := w) (g := w.heap.size) (B := w.heap.size + 1) (v := .slice none 0 0) (l := []) (by omega) (by omega) (Own.nil _ _ _ _) hk2 (HB1.out.alloc HB1.out.size (.cells #[.slice (some ⟨g, 1, none⟩) 0 (c1 - 1)] 32))
        have HQ1 := Lib.hid q1; have HQ2 := Lib.hid q2; have HQ3 := Lib.hid q3
        clear q1 q2 q3
        go_wp2
        refine bodyPost_ret (Ret.results_ct rfl _ _ w.heap.size [_] rfl aggN (Ret.one HQ1.out)) rfl ?_
        exact ⟨_, ret_nb HP.out.symm, by rw [HPN.out]; exact HB.of HQ2.out, HQ3.out⟩
    · have hn2 : 2 ≤ n := by omega
      have hn3 : decide ((n : Int) < 2) = false := by simp; omega
      have hc2 : ¬ c1 = 1 := by omega
      obtain ⟨b0, off0, he0, hcell⟩ := HH1.out.at (j := 0) (by rw [← HN.out]; omega)
      cases he0
      have HD := Lib.hid ((HH1.out.drop (j := 1) (by rw [← HN.out]; omega)).on ((Below.refl _ _).alloc (Nat.le_refl _) (.cells #[.slice (some ⟨g, 1, none⟩) (n - 1) (c1 - 1)] 32)))
      have HL := Lib.hid (show splitB s = nth (splitB s) 0 :: (splitB s).drop 1 by
        have := drop_nth (l := splitB s) (k := 0) (by rw [← HN.out]; omega)
        rw [List.drop_zero] at this
        exact this)
      have HDN := Lib.hid (show (splitB s).drop 1 ≠ [] by
        intro e
        have := congrArg List.length e
        rw [List.length_drop, ← HN.out] at this
        simp at this; omega)
      have HBD := Lib.hid (show bulk ((splitB s).drop 1) ≤ 100000000 by
        have h3 := HBK.out
        rw [HL.out, bulk_cons] at h3
        omega)
      have HR2 := Lib.hid (HR1.out.alloc (.cells #[.slice (some ⟨g, 1, none⟩) (n - 1) (c1 - 1)] 32))
      have HT2 := Lib.hid (Ret.NC.new' (w := w1) (.slice (some ⟨g, 1, none⟩) (n - 1) (c1 - 1)) 32 rfl)
      have HB2 := Lib.hid (HB1.out.alloc HB1.out.size (.cells #[.slice (some ⟨g, 1, none⟩) (n - 1) (c1 - 1)] 32))
      rw [Nat.add_zero] at hcell
      by_cases hx : nth (splitB s) 0 = mk []
      · have hxe : (nth (splitB s) 0).toList.isEmpty = true := by rw [hx, tl0]; rfl
        have HX := Lib.hid hx
        clear hx
        go_wp2_with fail
        refine (specValidName _ _ _ HD.out HBD.out).mono ?_
        rintro e w3 ⟨rfl, hb3⟩
        have HR3 := Lib.hid (HR2.out.on hb3)
        have HT3 := Lib.hid (HT2.out.on hb3)
        have HD3 := Lib.hid (HD.out.on hb3)
        have HTY3 := Lib.hid ((HTY.out.on ((Below.refl w1.heap.size w1).alloc (Nat.le_refl _) (.cells #[.slice (some ⟨g, 1, none⟩) (n - 1) (c1 - 1)] 32))).on hb3)
        have HB3 := Lib.hid (HB2.out.trans (hb3.mono HB2.out.size))
        clear hb3
        cases hv : validN ((splitB s).drop 1) with
        | true =>
          obtain ⟨p1, p2⟩ := split_yes (by have := HL.out; rw [HX.out] at this; exact this) HDN.out hv
          have HP := Lib.hid p1; have HPN := Lib.hid p2
          obtain ⟨hk2, hf2⟩ := HR3.out
          obtain ⟨hk3, -⟩ := HT3.out
          have HQ1 := Lib.hid (Ret.set_same (v := .slice (some ⟨g, 1, none⟩) (n - 1) (c1 - 1)) hk2)
          have HQ2 := Lib.hid (HD3.out.grown (Ret.grownBy_set w3 ⟨w.heap.size, 0, none⟩ (.slice (some ⟨g, 1, none⟩) (n - 1) (c1 - 1))) (fun g1 h1 e1 => by simp [Value.ownBlock] at h1 e1; omega))
          have HQ3 := Lib.hid (HB3.out.setCell (p := ⟨w.heap.size, 0, none⟩) (Nat.le_refl _) (.slice (some ⟨g, 1, none⟩) (n - 1) (c1 - 1)))
          clear p1 p2 hv
          go_wp2
          refine bodyPost_ret (Ret.results_ct rfl _ _ w.heap.size [_] rfl aggN (Ret.one HQ1.out)) rfl ?_
          exact ⟨_, ret_nb HP.out.symm, by rw [HPN.out]; exact ⟨HQ2.out, fun b off n c e => by cases e; exact ⟨by omega, HTY3.out.set (by omega)⟩⟩, HQ3.out⟩
        | false =>
          have HP := Lib.hid (split_no H47.out (fun rest h hr => by
            have h3 := HL.out
            rw [h] at h3
            have h4 := (List.cons.inj h3).2
            rw [h4, ← h]; exact hv))
          have HPN := Lib.hid (pN_no HP.out)
          obtain ⟨hk2, hf2⟩ := HR3.out
          obtain ⟨q1, q2, q3⟩ := endN (w := w) (g := w.heap.size) (B := w.heap.size + 1) (v := .slice none 0 0) (l := []) (by omega) (by omega) (Own.nil _ _ _ _) hk2 HB3.out
          have HQ1 := Lib.hid q1; have HQ2 := Lib.hid q2; have HQ3 := Lib.hid q3
          clear q1 q2 q3 hv
          go_wp2
          refine bodyPost_ret (Ret.results_ct rfl _ _ w.heap.size [_] rfl aggN (Ret.one HQ1.out)) rfl ?_
          exact ⟨_, ret_nb HP.out.symm, by rw [HPN.out]; exact HB.of HQ2.out, HQ3.out⟩
      · have hxe : (nth (splitB s) 0).toList.isEmpty = false := by
          have : (nth (splitB s) 0).toList ≠ [] := fun e => hx (toList_inj (e.trans tl0.symm))
          simpa using this
        have HP := Lib.hid (split_no H47.out (fun rest h hr => by
          have h3 := HL.out
          rw [h] at h3
          exact absurd (by rw [h]; exact (List.cons.inj h3).1.symm) hx))
        have HPN := Lib.hid (pN_no HP.out)
        clear hx
        obtain ⟨hk2, hf2⟩ := HR2.out
        obtain ⟨q1, q2, q3⟩ := endN (w := w) (g := w.heap.size) (B := w.heap.size + 1) (v := .slice none 0 0) (l := []) (by omega) (by omega) (Own.nil _ _ _ _) hk2 HB2.out
        have HQ1 := Lib.hid q1; have HQ2 := Lib.hid q2; have HQ3 := Lib.hid q3
        clear q1 q2 q3
        go_wp2
        refine bodyPost_ret (Ret.results_ct rfl _ _ w.heap.size [_] rfl aggN (Ret.one HQ1.out)) rfl ?_
        exact ⟨_, ret_nb HP.out.symm, by rw [HPN.out]; exact HB.of HQ2.out, HQ3.out⟩
set_option maxHeartbeats 2000000 in
theorem l4OfB (s : ByteArray) (w : World) (hs : s.size ≤ 10000000) :
    Calls Tryz.prog 44 #[.string s] w fun e w' => ∃ u, e = .returned (.agg #[u]) ∧ HB w.heap.size w' u (pN s) ∧ Below w.heap.size w w' := by
  have HB0 := Lib.hid ((Below.refl w.heap.size w).alloc (Nat.le_refl _) (.cells #[.slice none 0 0] 32))
  have HX0 := Lib.hid (Ret.Box.new w (.slice none 0 0) 32)
  have HP := Lib.hid (specParseNameB s (w.alloc (.cells #[.slice none 0 0] 32)) hs)
  go_enter Tryz.func44, Tryz.ntmps44
  go_wp2_with fail
  refine HP.out.mono ?_
  rintro e w1 ⟨u, rfl, ho, hb⟩
  obtain ⟨x, n, c, rfl, -, ho⟩ := ho.shapeN
  have ha := (Below.refl w1.heap.size w1).alloc (Nat.le_refl _) (.cells #[.slice x n c] 32)
  have HX1 := Lib.hid ((HX0.out.on hb).on ha)
  have HO1 := Lib.hid (ho.on ha)
  have hq := (Ret.Box.new w1 (.slice x n c) 32).cell
  have hz := HX1.out.cell
  have hf := HX1.out.frozen
  have HBF := Lib.hid ((HB0.out.trans (hb.mono HB0.out.size)).trans (ha.mono (Nat.le_trans HB0.out.size hb.size)))
  have HW := Lib.hid (HBF.out.grown (Ret.grownBy_set _ ⟨w.heap.size, 0, none⟩ (.slice x n c)) HBF.out.size (fun g hg => by cases hg; exact Nat.le_refl _))
  have HH := Lib.hid ((HO1.out.mono (by simp)).setT (g := w.heap.size) (i := 0) (u := .slice x n c) (B := w.heap.size) (show Ret.Blk _ w.heap.size #[.slice none 0 0] 32 from HX1.out) (by decide))
  have HC := Lib.hid (Ret.set_same (v := .slice x n c) HX1.out.cell)
  clear ha ho hb
  go_wp2_with fail
  refine bodyPost_ret (Ret.results_c rfl _ _ w.heap.size [_] rfl aggN (Ret.one HC.out)) rfl ?_
  exact ⟨_, rfl, HH.out, HW.out⟩
theorem hb_keep' {B p : Nat} {w w' : World} {v : Value} {l : List ByteArray} (h : HB B w v l) (hk : Draw.Keep p w w') (hp : p < B) : HB B w' v l := h.same fun g hg ht => hk.block g ht.lt (by omega)
end Go.Proofs.YtlhchmjnaanjpaaGreatDoor.Row
/- What comes in as an argument, in the words of kinds: which value of the kind it is, and that its parts fit. By structure: numbers, slices of texts, structs, slices of whatever. For any program. No conditions. -/
namespace Go.Proofs.YtlhchmjnaanjpaaGreatDoor.Row
open Go.ChangeShapes Go.WideShapes Go.ChangeAt Go.RowKit Go.Instr
set_option linter.unusedVariables false
set_option maxRecDepth 100000
def OpensK {α M : Type} (P : Program) (k : Kd α M) (t : TypeId) (ok : α → Prop) : Prop :=
  ∀ {H : Type} {enc : TypeId × Value → H} {w : World} {b2 : Nat} {held : Bool} {n : Nat} {cs : List Value} {y : DataW H × List MemPlace},
    DataW.trod enc P w b2 (fun _ => true) held n t cs = some y → ∃ m, k.cells m = cs ∧ k.holds w m ∧ ok (k.strip m)
section
variable {α M β N : Type} {P : Program} {k : Kd α M} {l : Kd β N} {t e s : TypeId} {ok : α → Prop} {ok' : β → Prop}
def OpensF {α M : Type} (P : Program) (k : Kd α M) (fs : List Field) (o : Nat) (ok : α → Prop) : Prop :=
  ∀ {H : Type} {enc : TypeId × Value → H} {w : World} {b2 : Nat} {held : Bool} {n : Nat} {cs : List Value},
    (∀ f ∈ fs, ∃ y, DataW.trod enc P w b2 (fun _ => true) held n f.type ((cs.drop f.offset).take (P.cellsOf f.type)) = some y) → ∃ m, k.cells m = (cs.drop o).take k.size ∧ k.holds w m ∧ ok (k.strip m)
theorem OpensK.imp {ok2 : α → Prop} (h : OpensK P k t ok) (hi : ∀ x, ok x → ok2 x) : OpensK P k t ok2 := by
  intro H enc w b2 held n cs y hy
  obtain ⟨m, a, b, c⟩ := h hy
  exact ⟨m, a, b, hi _ c⟩
end
end Go.Proofs.YtlhchmjnaanjpaaGreatDoor.Row
/- Names in the words of kinds: sz, to, eq, mark, held. No conditions but that lengths fit. -/
namespace Go.Proofs.YtlhchmjnaanjpaaGreatDoor.Row
open Go.ChangeShapes Go.WideShapes Go.ChangeAt Go.RowKit Go.Instr
set_option linter.unusedVariables false
set_option maxRecDepth 100000
end Go.Proofs.YtlhchmjnaanjpaaGreatDoor.Row
/- Keys in the words of kinds: the kind; sz, to, eq, mark, held. No conditions but that lengths fit. -/
namespace Go.Proofs.YtlhchmjnaanjpaaGreatDoor.Row
open Go.ChangeShapes Go.WideShapes Go.ChangeAt Go.RowKit Go.Instr
set_option linter.unusedVariables false
set_option maxRecDepth 100000
abbrev Kyt := List ByteArray × Int
abbrev Kym := Rw ByteArray × Int
def kKy : Kd Kyt Kym := (kN.pair kInt)
def wtKy (x : Kyt) : Nat := bulk x.1
def adKy (x : Kyt) : Nat := x.1.length
def okKy (x : Kyt) : Prop := okN x.1
def mkKy (k : Int) (x : Kyt) : Kyt := (marks markT (k) x.1.length, x.2)
section
variable {w : World} {V : Value} {x : Kyt} {B E : Nat}
end
def inKy (x : Kyt) : Prop := okN x.1 ∧ (Lit.int .i64 x.2).wf = true
theorem inKy.ok {x : Kyt} (h : inKy x) : okKy x := h.1
end Go.Proofs.YtlhchmjnaanjpaaGreatDoor.Row
/- Lists of keys in the words of kinds: sz, to, eq. No conditions but that lengths fit. -/
namespace Go.Proofs.YtlhchmjnaanjpaaGreatDoor.Row
open Go.ChangeShapes Go.WideShapes Go.ChangeAt Go.RowKit Go.Instr
set_option linter.unusedVariables false
set_option maxRecDepth 100000
def kLKy : Kd (List Kyt) (Rw Kym) := kKy.slice 119
def okLKy (l : List Kyt) : Prop := l.length ≤ 9223372036854775807 ∧ ∀ x ∈ l, okKy x
section
variable {w : World} {V : Value} {l : List Kyt} {B E : Nat}
theorem kLKy_at (h : kLKy.At w V l) : ∃ ad n cap L, V = .slice ad n cap ∧ n = L.length ∧ L.map kKy.strip = l ∧ HoldsK kKy.cells 2 w (.slice ad n cap) L ∧ ∀ x ∈ L, kKy.holds w x := by
  obtain ⟨⟨ad, n, cap, L⟩, hV, hl, hh, hel⟩ := h
  exact ⟨ad, n, cap, L, hV, HoldsK.lenEq (show HoldsK kKy.cells 2 w (.slice ad n cap) L from hh), hl, hh, hel⟩
theorem kLKy_shapeA (h : kLKy.At w V l) : ∃ x n c, V = .slice x n c ∧ kLKy.At w (.slice x n c) l := by
  obtain ⟨ad, n, cap, L, rfl, -⟩ := kLKy_at h
  exact ⟨ad, n, cap, rfl, h⟩
end
def inLKy (l : List Kyt) : Prop := l.length ≤ 9223372036854775807 ∧ ∀ x ∈ l, inKy x
theorem inLKy.ok {l : List Kyt} (h : inLKy l) : okLKy l := ⟨h.1, fun x hx => (h.2 x hx).ok⟩
def adLKy (l : List Kyt) : Nat := bulkK adKy l
end Go.Proofs.YtlhchmjnaanjpaaGreatDoor.Row
/- Contracts of the helpers by which the laws measure, copy, compare, mark and look at patterns (a struct of one slice of strings). No conditions but that lengths fit. -/
namespace Go.Proofs.YtlhchmjnaanjpaaGreatDoor.Row
open Go.ChangeShapes Go.WideShapes Go.ChangeAt Go.RowKit Go.Instr
set_option linter.unusedVariables false
set_option maxRecDepth 100000
end Go.Proofs.YtlhchmjnaanjpaaGreatDoor.Row
/- Patterns in the words of kinds (kN: a struct of one slice of texts): sz, to, eq, mark, held. No conditions but that lengths fit. -/
namespace Go.Proofs.YtlhchmjnaanjpaaGreatDoor.Row
open Go.ChangeShapes Go.WideShapes Go.ChangeAt Go.RowKit Go.Instr
set_option linter.unusedVariables false
set_option maxRecDepth 100000
end Go.Proofs.YtlhchmjnaanjpaaGreatDoor.Row
/- Rules (two patterns) in the words of kinds: the kind; sz, to, eq, mark, held. No conditions but that lengths fit. -/
namespace Go.Proofs.YtlhchmjnaanjpaaGreatDoor.Row
open Go.ChangeShapes Go.WideShapes Go.ChangeAt Go.RowKit Go.Instr
set_option linter.unusedVariables false
set_option maxRecDepth 100000
abbrev Rlt := List ByteArray × List ByteArray
abbrev Rlm := Rw ByteArray × Rw ByteArray
def kRl : Kd Rlt Rlm := (kN.pair kN)
theorem aggRl : Ret.AggOf Tryz.prog 131 2 := ⟨by kernel_rfl, by kernel_rfl⟩
def wtRl (x : Rlt) : Nat := bulk x.1 + bulk x.2
def adRl (x : Rlt) : Nat := x.1.length + x.2.length
def okRl (x : Rlt) : Prop := okN x.1 ∧ okN x.2
def mkRl (k : Int) (x : Rlt) : Rlt := (marks markT (k) x.1.length, marks markT (k + (x.1.length : Nat)) x.2.length)
section
variable {w : World} {V : Value} {x : Rlt} {B E : Nat}
theorem kRl_at (h : kRl.At w V x) : ∃ (x0_0 : Option Addr) (n0_0 c0_0 : Nat) (x1_0 : Option Addr) (n1_0 c1_0 : Nat), V = .agg #[.slice x0_0 n0_0 c0_0, .slice x1_0 n1_0 c1_0] ∧ kN.At w (.agg #[.slice x0_0 n0_0 c0_0]) x.1 ∧ kN.At w (.agg #[.slice x1_0 n1_0 c1_0]) x.2 := by
  obtain ⟨⟨m0, m1⟩, rfl, rfl, g0, g1⟩ := h
  obtain ⟨x0_0, n0_0, c0_0, e0, a0⟩ := kN_shapeA (Kd.at_of (k := kN) g0)
  have d0 : kN.cells m0 = [.slice x0_0 n0_0 c0_0] := by injection e0 with e; exact congrArg Array.toList e
  obtain ⟨x1_0, n1_0, c1_0, e1, a1⟩ := kN_shapeA (Kd.at_of (k := kN) g1)
  have d1 : kN.cells m1 = [.slice x1_0 n1_0 c1_0] := by injection e1 with e; exact congrArg Array.toList e
  refine ⟨x0_0, n0_0, c0_0, x1_0, n1_0, c1_0, ?_, e0 ▸ Kd.at_of (k := kN) g0, e1 ▸ Kd.at_of (k := kN) g1⟩
  show Value.agg ((kN.cells m0 ++ (kN.cells m1))).toArray = _
  rw [d0, d1]
  rfl
theorem kRl_of {x0_0 x1_0 : Option Addr} {n0_0 c0_0 n1_0 c1_0 : Nat} (h0 : kN.At w (.agg #[.slice x0_0 n0_0 c0_0]) x.1) (h1 : kN.At w (.agg #[.slice x1_0 n1_0 c1_0]) x.2) : kRl.At w (.agg #[.slice x0_0 n0_0 c0_0, .slice x1_0 n1_0 c1_0]) x := by
  obtain ⟨l0, l1⟩ := x
  obtain ⟨m0, e0, r0, g0⟩ := h0
  replace e0 := e0.symm
  have d0 : kN.cells m0 = [.slice x0_0 n0_0 c0_0] := by injection e0 with e; exact congrArg Array.toList e
  obtain ⟨m1, e1, r1, g1⟩ := h1
  replace e1 := e1.symm
  have d1 : kN.cells m1 = [.slice x1_0 n1_0 c1_0] := by injection e1 with e; exact congrArg Array.toList e
  refine ⟨(m0, m1), ?_, Prod.ext r0 (r1), g0, g1⟩
  symm
  show Value.agg ((kN.cells m0 ++ (kN.cells m1))).toArray = _
  rw [d0, d1]
  rfl
theorem kRl_shapeA (h : kRl.At w V x) : ∃ (x0_0 : Option Addr) (n0_0 c0_0 : Nat) (x1_0 : Option Addr) (n1_0 c1_0 : Nat), V = .agg #[.slice x0_0 n0_0 c0_0, .slice x1_0 n1_0 c1_0] ∧ kRl.At w (.agg #[.slice x0_0 n0_0 c0_0, .slice x1_0 n1_0 c1_0]) x := by
  obtain ⟨x0_0, n0_0, c0_0, x1_0, n1_0, c1_0, rfl, -⟩ := kRl_at h
  exact ⟨x0_0, n0_0, c0_0, x1_0, n1_0, c1_0, rfl, h⟩
end
def inRl (x : Rlt) : Prop := okN x.1 ∧ okN x.2
theorem inRl.ok {x : Rlt} (h : inRl x) : okRl x := ⟨h.1, h.2⟩
end Go.Proofs.YtlhchmjnaanjpaaGreatDoor.Row
