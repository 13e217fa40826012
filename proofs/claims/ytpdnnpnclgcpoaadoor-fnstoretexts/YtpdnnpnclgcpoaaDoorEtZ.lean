/- Texts that go together: EtxC, EtxD. -/
import Derived.Test.YtpdnnpnclgcpoaaDoorDecG
/- Texts joined by blanks; the text of bounds. -/
namespace Go.Proofs.YtpdnnpnclgcpoaaDoor
open Go.RowKit
set_option linter.unusedSimpArgs false
set_option linter.unusedVariables false

def jnS : List ByteArray → ByteArray
  | [] => ⟨#[]⟩
  | [x] => x
  | x :: y :: r => x ++ (⟨#[32]⟩ : ByteArray) ++ jnS (y :: r)
theorem jnS_cons (x : ByteArray) (l : List ByteArray) (h : l ≠ []) : jnS (x :: l) = x ++ (⟨#[32]⟩ : ByteArray) ++ jnS l := by
  cases l with
  | nil => exact absurd rfl h
  | cons y r => rfl
theorem ba_assoc (a b c : ByteArray) : a ++ b ++ c = a ++ (b ++ c) := by apply ByteArray.ext; simp [ByteArray.data_append]
theorem jnS_snoc (l : List ByteArray) (x : ByteArray) : jnS (l ++ [x]) = if l.length = 0 then x else jnS l ++ (⟨#[32]⟩ : ByteArray) ++ x := by
  induction l with
  | nil => rfl
  | cons y r ih =>
    rw [if_neg (by simp), List.cons_append]
    by_cases hr : r = []
    · subst hr; rfl
    · rw [jnS_cons y (r ++ [x]) (by simp), ih, if_neg (by simpa using hr), jnS_cons y r hr]
      simp only [ba_assoc]
theorem jnS_take (l : List ByteArray) (k : Nat) (h : k < l.length) : jnS (l.take (k + 1)) = if k = 0 then l[k] else jnS (l.take k) ++ (⟨#[32]⟩ : ByteArray) ++ l[k] := by
  rw [List.take_succ_eq_append_getElem h, jnS_snoc]
  by_cases e : k = 0
  · subst e; simp
  · rw [if_neg (by rw [List.length_take]; omega), if_neg e]
theorem jnS_size (l : List ByteArray) (M : Nat) (h : ∀ x ∈ l, x.size ≤ M) : (jnS l).size ≤ l.length * (M + 1) := by
  induction l with
  | nil => exact Nat.zero_le _
  | cons x r ih =>
    have hx := h x (by simp)
    have ih := ih (fun y hy => h y (by simp [hy]))
    rw [List.length_cons, Nat.add_mul]
    by_cases hr : r = []
    · subst hr
      have : (jnS [x]).size = x.size := rfl
      omega
    · rw [jnS_cons x r hr, ByteArray.size_append, ByteArray.size_append]
      have : (⟨#[32]⟩ : ByteArray).size = 1 := rfl
      omega
/-- A name and what is told of it. -/
def prB (p : ByteArray × ByteArray) : ByteArray := p.1 ++ (⟨#[32]⟩ : ByteArray) ++ p.2
def flat (l : List (ByteArray × ByteArray)) : List ByteArray := l.flatMap fun p => [p.1, p.2]
theorem flat_len (l : List (ByteArray × ByteArray)) : (flat l).length = 2 * l.length := by
  induction l with
  | nil => rfl
  | cons p r ih => show (flat r).length + 2 = _; rw [ih, List.length_cons]; omega
theorem jn_flat (l : List (ByteArray × ByteArray)) : jnS (flat l) = jnS (l.map prB) := by
  induction l with
  | nil => rfl
  | cons p r ih =>
    have e : flat (p :: r) = p.1 :: p.2 :: flat r := rfl
    rw [e, List.map_cons]
    by_cases hr : r = []
    · subst hr; rfl
    · have h1 : flat r ≠ [] := by intro h; have := flat_len r; rw [h] at this; cases r with | nil => exact hr rfl | cons a b => simp at this
      rw [jnS_cons _ _ (by simp), jnS_cons _ _ h1, ih, jnS_cons _ _ (by simpa using hr)]
      simp only [prB, ba_assoc]
theorem join_jn : ∀ l : List ByteArray, Lib.join (l.map (·.data.toList)) (⟨#[32]⟩ : ByteArray).data.toList = (jnS l).data.toList
  | [] => rfl
  | [x] => by simp [Lib.join, List.intercalate, jnS]
  | x :: y :: r => by
    have ih := join_jn (y :: r)
    rw [jnS_cons x (y :: r) (by simp)]
    simp only [ByteArray.data_append, Array.toList_append, ← ih]
    simp [Lib.join, List.intercalate]
theorem join_ba (l : List ByteArray) : (⟨(Lib.join (l.map (·.data.toList)) (⟨#[32]⟩ : ByteArray).data.toList).toArray⟩ : ByteArray) = jnS l := by
  rw [join_jn]
/-- What is told of variables, and of arrays. -/
def prV (vs : List ByteArray) (xs : List (Int × Int)) : List (ByteArray × ByteArray) := List.zipWith (fun n p => (n, ivT p)) vs xs
def prA (rs : List (ByteArray × Int)) (ys : List (Int × Int)) : List (ByteArray × ByteArray) := List.zipWith (fun r p => (r.1, ivT p)) rs ys
def envT (li : Bool) (vs : List ByteArray) (rs : List (ByteArray × Int)) (xs ys : List (Int × Int)) : ByteArray :=
  if li = false then ⟨#[110, 111, 110, 101]⟩ else if (prV vs xs ++ prA rs ys).length = 0 then ⟨#[97, 108, 108]⟩ else jnS ((prV vs xs ++ prA rs ys).map prB)
theorem prV_len {vs : List ByteArray} {xs : List (Int × Int)} (h : vs.length = xs.length) : (prV vs xs).length = xs.length := by unfold prV; rw [List.length_zipWith]; omega
theorem prA_len {rs : List (ByteArray × Int)} {ys : List (Int × Int)} (h : rs.length = ys.length) : (prA rs ys).length = ys.length := by unfold prA; rw [List.length_zipWith]; omega
theorem prV_take {vs : List ByteArray} {xs : List (Int × Int)} (h : vs.length = xs.length) (k : Nat) (h1 : k < vs.length) (h2 : k < xs.length) : (prV vs xs).take (k + 1) = (prV vs xs).take k ++ [(vs[k], ivT xs[k])] := by
  rw [List.take_succ_eq_append_getElem (by rw [prV_len h]; omega)]
  simp [prV]
theorem prA_take {rs : List (ByteArray × Int)} {ys : List (Int × Int)} (h : rs.length = ys.length) (k : Nat) (h1 : k < rs.length) (h2 : k < ys.length) : (prA rs ys).take (k + 1) = (prA rs ys).take k ++ [(rs[k].1, ivT ys[k])] := by
  rw [List.take_succ_eq_append_getElem (by rw [prA_len h]; omega)]
  simp [prA]
def InP (xs : List (Int × Int)) : Prop := ∀ i, (h : i < xs.length) → (-9223372036854775808 ≤ xs[i].1 ∧ xs[i].1 ≤ 9223372036854775807) ∧ (-9223372036854775808 ≤ xs[i].2 ∧ xs[i].2 ≤ 9223372036854775807)
theorem pr_sizes {vs : List ByteArray} {rs : List (ByteArray × Int)} {xs ys : List (Int × Int)} (hv : ∀ x ∈ vs, x.size ≤ 1048576) (hr : ∀ i, (h : i < rs.length) → rs[i].1.size ≤ 1048576) (hx : InP xs) (hy : InP ys) :
    ∀ p ∈ prV vs xs ++ prA rs ys, p.1.size ≤ 1048576 ∧ p.2.size ≤ 44 := by
  intro p hp
  rcases List.mem_append.1 hp with hp | hp
  · obtain ⟨i, hi, rfl⟩ := List.getElem_of_mem hp
    unfold prV at hi ⊢
    rw [List.length_zipWith] at hi
    simp only [List.getElem_zipWith]
    exact ⟨hv _ (List.getElem_mem _), ivT_size _ (hx i (by omega))⟩
  · obtain ⟨i, hi, rfl⟩ := List.getElem_of_mem hp
    unfold prA at hi ⊢
    rw [List.length_zipWith] at hi
    simp only [List.getElem_zipWith]
    exact ⟨hr i (by omega), ivT_size _ (hy i (by omega))⟩
theorem prB_sizes {l : List (ByteArray × ByteArray)} (h : ∀ p ∈ l, p.1.size ≤ 1048576 ∧ p.2.size ≤ 44) : ∀ x ∈ l.map prB, x.size ≤ 1048700 := by
  intro x hx
  obtain ⟨p, hp, rfl⟩ := List.mem_map.1 hx
  have := h p hp
  unfold prB
  rw [ByteArray.size_append, ByteArray.size_append]
  have : (⟨#[32]⟩ : ByteArray).size = 1 := rfl
  omega
theorem flat_sizes {l : List (ByteArray × ByteArray)} (h : ∀ p ∈ l, p.1.size ≤ 1048576 ∧ p.2.size ≤ 44) : ∀ x ∈ flat l, x.size ≤ 1048700 := by
  intro x hx
  obtain ⟨p, hp, hx⟩ := List.mem_flatMap.1 hx
  have := h p hp
  simp at hx
  rcases hx with rfl | rfl <;> omega
theorem flat_app (l m : List (ByteArray × ByteArray)) : flat (l ++ m) = flat l ++ flat m := by simp [flat]
theorem own_on {w w' : World} {B : Nat} {e : TypeId} {k : Nat} {v : Value} {n : Nat} {xs : List Value} (h : w.ownsRow B e k v n xs) (hb : Below w.heap.size w w') : w'.ownsRow B e k v n xs := by
  refine ⟨h.1, ?_⟩
  rcases h.2 with h0 | ⟨g, cap, cur, hv, hB, hg, r⟩
  · exact .inl h0
  · refine .inr ⟨g, cap, cur, hv, hB, (hb.block g ?_).trans hg, r⟩
    have := (h.lt g (by rw [hv]; rfl)).2
    exact this
set_option maxRecDepth 20000 in
set_option maxHeartbeats 4000000 in
theorem l13Joined_c (a : Option Addr) (cap : Nat) (l : List ByteArray) (w : World) (h : Strs w a l) (hs : ∀ x ∈ l, x.size ≤ 1048700) (hn : l.length ≤ 100) : Calls Tryd.prog 73 #[.slice a l.length cap, .string ⟨#[32]⟩] w fun e w' => e = .returned (.string (jnS l)) ∧ w' = w := by
  have HI := hide h
  obtain ⟨V, hV⟩ : ∃ V, V = jnS l := ⟨_, rfl⟩
  rw [← hV]
  have HV := hide hV
  have HS := hide hs
  have HN := hide hn
  clear h hV hs
  go_enter Tryd.func73, Tryd.ntmps73
  go_wp2
  go_loopw [5, 6] (fun s i wr => ∃ (k : Nat) (t : ByteArray), k ≤ l.length ∧ i = .int .i64 k ∧ s = .string t ∧ Hid (t = jnS (l.take k)) ∧ wr = w) (fun _ i _ => l.length - (intOf i).toNat)
  case atStart => exact ⟨0, _, Nat.zero_le _, rfl, rfl, rfl, rfl⟩
  case round =>
    obtain ⟨k, t, hk, rfl, rfl, HT, rfl⟩ := hrel
    by_cases hlt : k < l.length
    · rcases (unhide HI).2 with h0 | ⟨cb, co, rfl, hc⟩
      · omega
      have c0 := hc k hlt
      have st : t.size ≤ 200000000 := by
        rw [unhide HT]
        have := jnS_size (l.take k) 1048700 (fun x hx => unhide HS x (List.mem_of_mem_take hx))
        rw [List.length_take] at this
        have : min k l.length ≤ 100 := by omega
        have : min k l.length * 1048701 ≤ 100 * 1048701 := Nat.mul_le_mul_right _ this
        omega
      have sx : l[k].size ≤ 1048700 := unhide HS _ (List.getElem_mem _)
      have HT2 := hide (jnS_take l k hlt)
      rw [← unhide HT] at HT2
      generalize l[k] = x at c0 sx HT2
      have hlt' : (k : Int) < (l.length : Int) := by omega
      clear hc
      by_cases e0 : k = 0
      · have HT3 : Hid (x = jnS (l.take (k + 1))) := by have q := unhide HT2; rw [if_pos e0] at q; exact q.symm
        have HE : Hid (t = ⟨#[]⟩) := by have q := unhide HT; subst e0; exact q
        subst e0
        obtain rfl := unhide HE
        rw [Nat.add_zero] at c0
        have hn1 : ¬ (9223372036854775807 < x.size) := by omega
        go_wp2
        go_roundw
        case rel => exact ⟨1, _, by omega, by go_num, rfl, (by first | exact unhide HT3 | (rw [nil_app]; exact unhide HT3)), (by simp)⟩
        case measure => simp [intOf]; omega
      · have HT3 : Hid (t ++ (⟨#[32]⟩ : ByteArray) ++ x = jnS (l.take (k + 1))) := by have q := unhide HT2; rw [if_neg e0] at q; exact q.symm
        have e1 : (0 : Int) < (k : Int) := by omega
        have hn1 : ¬ (9223372036854775807 < t.size + 1) := by omega
        have hn2 : ¬ (9223372036854775807 < t.size + 1 + x.size) := by omega
        clear e0
        go_wp2
        go_roundw
        case rel => exact ⟨k + 1, _, by omega, by go_num, rfl, unhide HT3, (by simp)⟩
        case measure => simp [intOf]; omega
    · have HE := hide (show t = V by rw [unhide HT, unhide HV, List.take_of_length_le (by omega)])
      have hlt' : ¬ ((k : Int) < (l.length : Int)) := by omega
      go_wp2
      go_ret
      exact ⟨by rw [unhide HE]; rfl, rfl⟩
end Go.Proofs.YtpdnnpnclgcpoaaDoor

/- The text of bounds: the specification's. -/
namespace Go.Proofs.YtpdnnpnclgcpoaaDoor
open Go.RowKit
set_option linter.unusedSimpArgs false
set_option linter.unusedVariables false

theorem cell_on {B : Nat} {w0 u : World} {b o : Nat} {v : Value} (hb : Below B w0 u) (hl : b < B) (h : w0.cell? ⟨b, o, none⟩ = some v) : u.cell? ⟨b, o, none⟩ = some v := (hb.cell hl).trans h
/-- Five cells that lie below, and stay. -/
@[reducible] def S5 (B : Nat) (w0 : World) (b1 o1 b2 o2 b3 o3 b4 o4 o5 : Nat) (v1 v2 v3 v4 v5 : Value) (u : World) : Prop :=
  u.cell? ⟨b1, o1, none⟩ = some v1 ∧ u.cell? ⟨b2, o2, none⟩ = some v2 ∧ u.cell? ⟨b3, o3, none⟩ = some v3 ∧ u.cell? ⟨b4, o4, none⟩ = some v4 ∧ u.cell? ⟨b4, o5, none⟩ = some v5 ∧ Hid (Below B w0 u ∧ B ≤ u.heap.size ∧ b1 < B ∧ b2 < B ∧ b3 < B ∧ b4 < B)
theorem S5.to {B : Nat} {w0 u u' : World} {b1 o1 b2 o2 b3 o3 b4 o4 o5 : Nat} {v1 v2 v3 v4 v5 : Value} (h : S5 B w0 b1 o1 b2 o2 b3 o3 b4 o4 o5 v1 v2 v3 v4 v5 u) (hb : Below B u u') (hs : B ≤ u'.heap.size) : S5 B w0 b1 o1 b2 o2 b3 o3 b4 o4 o5 v1 v2 v3 v4 v5 u' := by
  obtain ⟨h1, h2, h3, h4, h5, q⟩ := h
  obtain ⟨q0, q1, l1, l2, l3, l4⟩ := unhide q
  exact ⟨(hb.cell l1).trans h1, (hb.cell l2).trans h2, (hb.cell l3).trans h3, (hb.cell l4).trans h4, (hb.cell l4).trans h5, hide ⟨q0.trans hb, hs, l1, l2, l3, l4⟩⟩
theorem S5.sz {B : Nat} {w0 u : World} {b1 o1 b2 o2 b3 o3 b4 o4 o5 : Nat} {v1 v2 v3 v4 v5 : Value} (h : S5 B w0 b1 o1 b2 o2 b3 o3 b4 o4 o5 v1 v2 v3 v4 v5 u) : B ≤ u.heap.size := (unhide h.2.2.2.2.2).2.1
theorem S5.below {B : Nat} {w0 u : World} {b1 o1 b2 o2 b3 o3 b4 o4 o5 : Nat} {v1 v2 v3 v4 v5 : Value} (h : S5 B w0 b1 o1 b2 o2 b3 o3 b4 o4 o5 v1 v2 v3 v4 v5 u) : Below B w0 u := (unhide h.2.2.2.2.2).1
theorem S5.call {B : Nat} {w0 u u' : World} {b1 o1 b2 o2 b3 o3 b4 o4 o5 : Nat} {v1 v2 v3 v4 v5 : Value} (hb : Below u.heap.size u u') (h : S5 B w0 b1 o1 b2 o2 b3 o3 b4 o4 o5 v1 v2 v3 v4 v5 u) : S5 B w0 b1 o1 b2 o2 b3 o3 b4 o4 o5 v1 v2 v3 v4 v5 u' := h.to (hb.mono h.sz) (Nat.le_trans h.sz hb.size)
theorem S5.drew {B : Nat} {w0 u : World} {b1 o1 b2 o2 b3 o3 b4 o4 o5 : Nat} {v1 v2 v3 v4 v5 : Value} (h : S5 B w0 b1 o1 b2 o2 b3 o3 b4 o4 o5 v1 v2 v3 v4 v5 u) : S5 B w0 b1 o1 b2 o2 b3 o3 b4 o4 o5 v1 v2 v3 v4 v5 u.drew := h.to (Below.refl _ _).drew h.sz
theorem S5.alloc {B : Nat} {w0 u : World} {b1 o1 b2 o2 b3 o3 b4 o4 o5 : Nat} {v1 v2 v3 v4 v5 : Value} (h : S5 B w0 b1 o1 b2 o2 b3 o3 b4 o4 o5 v1 v2 v3 v4 v5 u) (o : Obj) : S5 B w0 b1 o1 b2 o2 b3 o3 b4 o4 o5 v1 v2 v3 v4 v5 (u.alloc o) := S5.call ((Below.refl _ _).alloc (Nat.le_refl _) o) h
theorem S5.grown {B : Nat} {w0 u u' : World} {b1 o1 b2 o2 b3 o3 b4 o4 o5 : Nat} {v1 v2 v3 v4 v5 : Value} {row : Option Nat} (h : S5 B w0 b1 o1 b2 o2 b3 o3 b4 o4 o5 v1 v2 v3 v4 v5 u) (hg : u.grownBy u' row) (hr : ∀ j, row = some j → B ≤ j) : S5 B w0 b1 o1 b2 o2 b3 o3 b4 o4 o5 v1 v2 v3 v4 v5 u' := h.to ((Below.refl _ _).grown hg h.sz hr) (Nat.le_trans h.sz hg.size)
theorem env_lensE {vs fs : List ByteArray} {rs : List (ByteArray × Int)} {li : Bool} {xs ys : List (Int × Int)} (h : envB vs fs rs li xs ys = true) : li = true → vs.length = xs.length ∧ rs.length = ys.length ∧ xs.length ≤ 5 ∧ ys.length ≤ 2 := by
  intro hl
  unfold envB at h
  rw [Bool.and_eq_true] at h
  have h1 := declB_len h.1
  have h2 := of_decide_eq_true h.2
  rcases h2 with ⟨h3, _⟩ | ⟨_, h3, h4, _⟩
  · rw [hl] at h3; cases h3
  · omega
set_option maxRecDepth 20000 in
set_option maxHeartbeats 8000000 in
theorem l13Env_c (a1 a2 a3 : Option Addr) (c1 c2 c3 : Nat) (vs fs : List ByteArray) (rs : List (ByteArray × Int)) (li : Bool) (e1 e2 : Option Addr) (d1 d2 : Nat) (xs ys : List (Int × Int)) (w : World) (hv : Strs w a1 vs) (hr : Arrs w a3 rs)
    (hx : Ivs w e1 xs) (hy : Ivs w e2 ys) (ix : InP xs) (iy : InP ys) (zv : ∀ x ∈ vs, x.size ≤ 1048576) (zr : ∀ i, (h : i < rs.length) → rs[i].1.size ≤ 1048576)
    (hl : li = true → vs.length = xs.length ∧ rs.length = ys.length ∧ xs.length ≤ 5 ∧ ys.length ≤ 2) :
    Calls Tryd.prog 69 #[.agg #[.slice a1 vs.length c1, .slice a2 fs.length c2, .slice a3 rs.length c3], .agg #[.bool li, .slice e1 xs.length d1, .slice e2 ys.length d2]] w
    fun e w' => e = .returned (.string (envT li vs rs xs ys)) ∧ Below w.heap.size w w' := by
  have HV := hide hv
  have HR := hide hr
  have HX := hide hx
  have HY := hide hy
  have HIX := hide ix
  have HIY := hide iy
  have HPS := hide (pr_sizes zv zr ix iy)
  have HZV := hide zv
  have HZR := hide zr
  have T0 := (C3.new w (.slice a1 vs.length c1) (.slice a2 fs.length c2) (.slice a3 rs.length c3) 27).alloc (Obj.cells #[.bool li, .slice e1 xs.length d1, .slice e2 ys.length d2] 43)
  have T1 := C3.new (w.alloc (Obj.cells #[.slice a1 vs.length c1, .slice a2 fs.length c2, .slice a3 rs.length c3] 27)) (.bool li) (.slice e1 xs.length d1) (.slice e2 ys.length d2) 43
  have K0 : Below w.heap.size w ((w.alloc (Obj.cells #[.slice a1 vs.length c1, .slice a2 fs.length c2, .slice a3 rs.length c3] 27)).alloc (Obj.cells #[.bool li, .slice e1 xs.length d1, .slice e2 ys.length d2] 43)) := ((Below.refl _ _).alloc (Nat.le_refl _) _).alloc (by simp) _
  rw [show (w.alloc (Obj.cells #[.slice a1 vs.length c1, .slice a2 fs.length c2, .slice a3 rs.length c3] 27)).heap.size = w.heap.size + 1 by simp] at T1
  have HT0 := hide T0
  have HT1 := hide T1
  have HK := hide K0
  clear T0 T1 K0 hv hr hx hy ix iy zv zr
  obtain ⟨D, hD⟩ : ∃ D, D = w.heap.size := ⟨_, rfl⟩
  obtain ⟨V, hV⟩ : ∃ V, V = envT li vs rs xs ys := ⟨_, rfl⟩
  rw [← hV]
  have HVV := hide hV
  clear hV
  obtain ⟨inf, hi, hz0, hz1, hz2⟩ := info_parts strInfo
  go_enter Tryd.func69, Tryd.ntmps69
  go_upto_region 1 with fail
  generalize (w.alloc (Obj.cells #[.slice a1 vs.length c1, .slice a2 fs.length c2, .slice a3 rs.length c3] 27)).alloc (Obj.cells #[.bool li, .slice e1 xs.length d1, .slice e2 ys.length d2] 43) = u at HT0 HT1 HK ⊢
  have HDE := hide hD
  rw [← hD] at HT0 HT1 ⊢
  clear hD
  have t0 := (unhide HT1).1
  cases li
  · have HN : Hid (V = ⟨#[110, 111, 110, 101]⟩) := unhide HVV
    clear HVV
    go_wp2
    go_ret
    exact ⟨by rw [unhide HN]; rfl, unhide HK⟩
  obtain ⟨l1, l2, l3, l4⟩ := hl rfl
  have HL := hide (And.intro l1 (And.intro l2 (And.intro l3 l4)))
  have HB0 := hide (show D + 2 ≤ u.heap.size by have := (unhide HT1).lt; omega)
  have HVV : Hid (V = if (prV vs xs ++ prA rs ys).length = 0 then ⟨#[97, 108, 108]⟩ else jnS ((prV vs xs ++ prA rs ys).map prB)) := unhide HVV
  clear hl t0
  have t0 := (unhide HT1).1
  go_upto_region 4 with fail
  clear t0
  have HO := hide (row0 u (D + 2) (unhide HB0))
  have HKA := hide ((Below.refl (D + 2) u).alloc (unhide HB0) (Obj.cells #[] 9))
  have HSA := hide (show D + 2 ≤ (u.alloc (Obj.cells #[] 9)).heap.size by have := unhide HB0; simp; omega)
  clear l1 l2 l3 l4
  generalize u.alloc (Obj.cells #[] 9) = u0 at HO HKA HSA ⊢
  generalize u.heap.size = ob0 at HO ⊢
  go_wp2
  go_loopw [5, 6] (fun l i wr => ∃ (k : Nat) (oc : Option Addr) (cc : Nat), k ≤ xs.length ∧ i = .int .i64 k ∧ l = .slice oc k cc ∧ wr.ownsRow (D + 2) 9 1 (.slice oc k cc) k (cellsS (((prV vs xs).take k).map prB)) ∧ Below (D + 2) u wr ∧ D + 2 ≤ wr.heap.size) (fun _ i _ => xs.length - (intOf i).toNat)
  case atStart => exact ⟨0, _, _, Nat.zero_le _, rfl, rfl, unhide HO, unhide HKA, unhide HSA⟩
  case round =>
    clear HO HKA HSA
    obtain ⟨k, oc, cc, hk, rfl, rfl, ho, hb, hz⟩ := hrel
    have HB := hide hb
    have HO := hide ho
    have HZ := hide hz
    have t0 := (hb.cell (show D < D + 2 by omega)).trans (unhide HT0).1
    have t1 := (hb.cell (show D + 1 < D + 2 by omega)).trans (unhide HT1).2.1
    by_cases hlt : k < xs.length
    · have hkv : k < vs.length := by have := unhide HL; omega
      have HI1 := hide ((unhide HIX) k hlt)
      rcases (unhide HX).2 with h9 | ⟨xb, xo, e9, hc⟩
      · omega
      subst e9
      have y0 := (hc k hlt).1
      have y1 := (hc k hlt).2
      clear hc
      rcases (unhide HV).2 with h9 | ⟨nb, no, e9, hc⟩
      · have := unhide HL; omega
      subst e9
      have y2 := hc k (by have := unhide HL; omega)
      clear hc
      have lw1 : xb < w.heap.size := World.block_lt_of_cell? _ _ y0
      have lw2 : nb < w.heap.size := World.block_lt_of_cell? _ _ y2
      have lq1 : xb < D + 2 := by have := unhide HDE; omega
      have lq2 : nb < D + 2 := by have := unhide HDE; omega
      have y0 := cell_on hb lq1 (cell_on (unhide HK) lw1 y0)
      have y1 := cell_on hb lq1 (cell_on (unhide HK) lw1 y1)
      have y2 := cell_on hb lq2 (cell_on (unhide HK) lw2 y2)
      have HT2 := hide (prV_take (unhide HL).1 k hkv hlt)
      have sN : vs[k].size ≤ 1048576 := unhide HZV _ (List.getElem_mem _)
      have sY := ivT_size _ (unhide HI1)
      have k1 : ∀ w, Calls Tryd.prog 110 #[.agg #[.int .i64 xs[k].1, .int .i64 xs[k].2]] w fun e w' => e = .returned (.string (ivT xs[k])) ∧ Below w.heap.size w w' := fun w => l13Iv_c _ _ (unhide HI1) w
      generalize ivT xs[k] = Y at HT2 sY k1
      generalize xs[k].1 = p at y0 k1 HI1
      generalize xs[k].2 = q at y1 k1 HI1
      generalize vs[k] = N at y2 HT2 sN
      have KI := hide k1
      have HI1 := hide HI1
      have n1 : ¬ (9223372036854775807 < N.size + 1) := by omega
      have n2 : ¬ (9223372036854775807 < N.size + 1 + Y.size) := by omega
      have hlt' : (k : Int) < (xs.length : Int) := by omega
      have hl5 : (xs.length : Int) ≤ 5 := by have := unhide HL; omega
      have hkv' : (k : Int) < (vs.length : Int) := by omega
      have hh : S5 (D + 2) wr D 0 (D + 1) 1 nb (no + k) xb (xo + k * 2) (xo + k * 2 + 1) _ _ _ _ _ wr := ⟨t0, t1, y2, y0, y1, hide ⟨Below.refl _ _, hz, by omega, by omega, lq2, lq1⟩⟩
      have kd : Below wr.heap.size wr wr.drew := (Below.refl _ _).drew
      have hsm := hide (show k ≤ 20 by have := unhide HL; omega)
      clear k1 lw1 lw2 lq1 lq2 ho hb hz
      go_upto_region 7 with fail
      clear t0 t1 y0 y1 y2
      go_region_held3 (S5 (D + 2) wr D 0 (D + 1) 1 nb (no + k) xb (xo + k * 2) (xo + k * 2 + 1) (.slice (some ⟨nb, no, none⟩) vs.length c1) (.slice (some ⟨xb, xo, none⟩) xs.length d1) (.string N) (.int .i64 p) (.int .i64 q))
        (first | exact hs4 | exact S5.drew (by assumption) | exact S5.alloc (by assumption) _ | exact hq | assumption)
        (first
          | (go_at_call 110; refine ((unhide KI) _).mono ?_; rintro e v1 ⟨rfl, hb1⟩; have hq := S5.call hb1 (S5.drew hh); have ho1 := own_on (own_on (unhide HO) kd) hb1)
          | (refine step_app _ (by rfl) _ _ _ (by rfl) (D + 2) 9 inf (.string ⟨#[]⟩) 1 16 Tryd.underlying24 hi hz0 hz1 hz2 rfl (by decide) _ _ _ (by rfl) (ho1.alloc _) ⟨_, 0, none⟩ 1 1 [.string (N ++ (⟨#[32]⟩ : ByteArray) ++ Y)] (by rfl) rfl (World.news_of_block (heap_alloc_new _ _)) (by intro u hu; simp at hu; subst hu; rfl) (by unfold maxLen; have := unhide hsm; omega) (by have := unhide hsm; omega) (by have := hq.sz; simp; omega) ?_; intro oc' cc' w5 hown hgrow; have hs4 := S5.grown (S5.alloc hq _) hgrow (fun j hj => (ho1.lt j hj).1)))
      rename_i hHeld
      have HD5 := hide ((unhide HB).trans hs4.below)
      have HZ5 := hide hs4.sz
      have HO5 : Hid (w5.ownsRow (D + 2) 9 1 (.slice oc' (k + 1) cc') (k + 1) (cellsS (((prV vs xs).take (k + 1)).map prB))) := hide (by
        rw [unhide HT2, List.map_append, show ∀ a b, cellsS (a ++ b) = cellsS a ++ cellsS b from fun a b => by simp [cellsS]]
        exact hown)
      clear hHeld hh hq hs4 hown hgrow ho1 kd KI HO HB HZ hb1
      go_wp2
      go_roundw
      case rel => exact ⟨k + 1, oc', cc', by omega, by go_num, rfl, unhide HO5, unhide HD5, unhide HZ5⟩
      case measure => simp [intOf]; omega
    · have ek : k = xs.length := by omega
      subst ek
      have hlt' : ¬ ((xs.length : Int) < (xs.length : Int)) := by omega
      rw [List.take_of_length_le (by rw [prV_len (unhide HL).1]; omega)] at HO
      clear ho hb hz
      go_wp2
      go_loopw [5, 7] (fun l i wr => ∃ (k : Nat) (oc : Option Addr) (cc : Nat), k ≤ ys.length ∧ i = .int .i64 k ∧ l = .slice oc (xs.length + k) cc ∧ wr.ownsRow (D + 2) 9 1 (.slice oc (xs.length + k) cc) (xs.length + k) (cellsS ((prV vs xs ++ (prA rs ys).take k).map prB)) ∧ Below (D + 2) u wr ∧ D + 2 ≤ wr.heap.size) (fun _ i _ => ys.length - (intOf i).toNat)
      case atStart => exact ⟨0, _, _, Nat.zero_le _, rfl, rfl, by simpa using unhide HO, unhide HB, unhide HZ⟩
      case round =>
        clear HO HB HZ
        obtain ⟨k, oc, cc, hk, rfl, rfl, ho, hb, hz⟩ := hrel
        have HB := hide hb
        have HO := hide ho
        have HZ := hide hz
        have t0 := (hb.cell (show D < D + 2 by omega)).trans (unhide HT0).2.2.1
        have t1 := (hb.cell (show D + 1 < D + 2 by omega)).trans (unhide HT1).2.2.1
        by_cases hlt : k < ys.length
        · have hkv : k < rs.length := by have := unhide HL; omega
          have HI1 := hide ((unhide HIY) k hlt)
          rcases (unhide HY).2 with h9 | ⟨xb, xo, e9, hc⟩
          · omega
          subst e9
          have y0 := (hc k hlt).1
          have y1 := (hc k hlt).2
          clear hc
          rcases (unhide HR).2 with h9 | ⟨nb, no, e9, hc⟩
          · have := unhide HL; omega
          subst e9
          have y2 := (hc k (by have := unhide HL; omega)).1
          clear hc
          have lw1 : xb < w.heap.size := World.block_lt_of_cell? _ _ y0
          have lw2 : nb < w.heap.size := World.block_lt_of_cell? _ _ y2
          have lq1 : xb < D + 2 := by have := unhide HDE; omega
          have lq2 : nb < D + 2 := by have := unhide HDE; omega
          have y0 := cell_on hb lq1 (cell_on (unhide HK) lw1 y0)
          have y1 := cell_on hb lq1 (cell_on (unhide HK) lw1 y1)
          have y2 := cell_on hb lq2 (cell_on (unhide HK) lw2 y2)
          have HT2 := hide (prA_take (unhide HL).2.1 k hkv hlt)
          have sN : rs[k].1.size ≤ 1048576 := unhide HZR k hkv
          have sY := ivT_size _ (unhide HI1)
          have k1 : ∀ w, Calls Tryd.prog 110 #[.agg #[.int .i64 ys[k].1, .int .i64 ys[k].2]] w fun e w' => e = .returned (.string (ivT ys[k])) ∧ Below w.heap.size w w' := fun w => l13Iv_c _ _ (unhide HI1) w
          generalize ivT ys[k] = Y at HT2 sY k1
          generalize ys[k].1 = p at y0 k1 HI1
          generalize ys[k].2 = q at y1 k1 HI1
          generalize rs[k].1 = N at y2 HT2 sN
          have KI := hide k1
          have HI1 := hide HI1
          have n1 : ¬ (9223372036854775807 < N.size + 1) := by omega
          have n2 : ¬ (9223372036854775807 < N.size + 1 + Y.size) := by omega
          have hlt' : (k : Int) < (ys.length : Int) := by omega
          have hl5 : (ys.length : Int) ≤ 5 := by have := unhide HL; omega
          have hkv' : (k : Int) < (rs.length : Int) := by omega
          have hh : S5 (D + 2) wr D 2 (D + 1) 2 nb (no + k * 2) xb (xo + k * 2) (xo + k * 2 + 1) _ _ _ _ _ wr := ⟨t0, t1, y2, y0, y1, hide ⟨Below.refl _ _, hz, by omega, by omega, lq2, lq1⟩⟩
          have kd : Below wr.heap.size wr wr.drew := (Below.refl _ _).drew
          have hsm := hide (show (xs.length + k) ≤ 20 by have := unhide HL; omega)
          clear k1 lw1 lw2 lq1 lq2 ho hb hz
          go_upto_region 11 with fail
          clear t0 t1 y0 y1 y2
          go_region_held3 (S5 (D + 2) wr D 2 (D + 1) 2 nb (no + k * 2) xb (xo + k * 2) (xo + k * 2 + 1) (.slice (some ⟨nb, no, none⟩) rs.length c3) (.slice (some ⟨xb, xo, none⟩) ys.length d2) (.string N) (.int .i64 p) (.int .i64 q))
            (first | exact hs4 | exact S5.drew (by assumption) | exact S5.alloc (by assumption) _ | exact hq | assumption)
            (first
              | (go_at_call 110; refine ((unhide KI) _).mono ?_; rintro e v1 ⟨rfl, hb1⟩; have hq := S5.call hb1 (S5.drew hh); have ho1 := own_on (own_on (unhide HO) kd) hb1)
              | (refine step_app _ (by rfl) _ _ _ (by rfl) (D + 2) 9 inf (.string ⟨#[]⟩) 1 16 Tryd.underlying24 hi hz0 hz1 hz2 rfl (by decide) _ _ _ (by rfl) (ho1.alloc _) ⟨_, 0, none⟩ 1 1 [.string (N ++ (⟨#[32]⟩ : ByteArray) ++ Y)] (by rfl) rfl (World.news_of_block (heap_alloc_new _ _)) (by intro u hu; simp at hu; subst hu; rfl) (by unfold maxLen; have := unhide hsm; omega) (by have := unhide hsm; omega) (by have := hq.sz; simp; omega) ?_; intro oc' cc' w5 hown hgrow; have hs4 := S5.grown (S5.alloc hq _) hgrow (fun j hj => (ho1.lt j hj).1)))
          rename_i hHeld
          have HD5 := hide ((unhide HB).trans hs4.below)
          have HZ5 := hide hs4.sz
          have HO5 : Hid (w5.ownsRow (D + 2) 9 1 (.slice oc' ((xs.length + k) + 1) cc') ((xs.length + k) + 1) (cellsS ((prV vs xs ++ (prA rs ys).take (k + 1)).map prB))) := hide (by
            rw [unhide HT2, ← List.append_assoc, List.map_append, show ∀ a b, cellsS (a ++ b) = cellsS a ++ cellsS b from fun a b => by simp [cellsS]]
            exact hown)
          clear hHeld hh hq hs4 hown hgrow ho1 kd KI HO HB HZ hb1
          go_wp2
          go_roundw
          case rel => exact ⟨k + 1, oc', cc', by omega, by go_num, by rw [Nat.add_assoc], by have q := unhide HO5; rw [Nat.add_assoc] at q; exact q, unhide HD5, unhide HZ5⟩
          case measure => simp [intOf]; omega
        · have ek : k = ys.length := by omega
          subst ek
          have hlt' : ¬ ((ys.length : Int) < (ys.length : Int)) := by omega
          rw [List.take_of_length_le (by rw [prA_len (unhide HL).2.1]; omega)] at HO
          clear ho hb hz
          have HLN := hide (show (prV vs xs ++ prA rs ys).length = xs.length + ys.length by rw [List.length_append, prV_len (unhide HL).1, prA_len (unhide HL).2.1])
          by_cases h0 : xs.length + ys.length = 0
          · have HN := hide (show V = ⟨#[97, 108, 108]⟩ by rw [unhide HVV, if_pos (by rw [unhide HLN]; exact h0)])
            have h0' : ((xs.length + ys.length : Nat) : Int) = 0 := by omega
            have h0'' : (xs.length : Int) + (ys.length : Int) = 0 := by omega
            go_wp2
            go_ret
            exact ⟨by rw [unhide HN]; rfl, (unhide HK).trans ((unhide HB).mono (by have := unhide HDE; omega))⟩
          · have HN := hide (show V = jnS ((prV vs xs ++ prA rs ys).map prB) by rw [unhide HVV, if_neg (by rw [unhide HLN]; exact h0)])
            have h0' : ¬ (((xs.length + ys.length : Nat) : Int) = 0) := by omega
            have h0'' : ¬ ((xs.length : Int) + (ys.length : Int) = 0) := by omega
            obtain ⟨hn, hst⟩ := Strs.ofOwn (unhide HO) (by have := unhide HL; omega)
            have HJ := hide (l13Joined_c oc cc _ wr hst (prB_sizes (unhide HPS)) (by rw [← hn]; have := unhide HL; omega))
            rw [← hn] at HJ
            clear hst hn h0
            go_wp2_with fail
            refine (unhide HJ).mono ?_
            rintro e w9 ⟨rfl, rfl⟩
            rw [← unhide HN]
            go_wp2
            go_ret
            exact ⟨rfl, (unhide HK).trans ((unhide HB).mono (by have := unhide HDE; omega))⟩
set_option maxRecDepth 20000 in
set_option maxHeartbeats 8000000 in
theorem sEnvText_c (a1 a2 a3 : Option Addr) (c1 c2 c3 : Nat) (vs fs : List ByteArray) (rs : List (ByteArray × Int)) (li : Bool) (e1 e2 : Option Addr) (d1 d2 : Nat) (xs ys : List (Int × Int)) (w : World) (hv : Strs w a1 vs) (hf : Strs w a2 fs) (hr : Arrs w a3 rs)
    (hz : ∀ x ∈ namesOf vs fs rs, x.size ≤ 1048576) (hx : Ivs w e1 xs) (hy : Ivs w e2 ys) (ix : InP xs) (iy : InP ys) :
    Calls Tryd.prog 26 #[.agg #[.slice a1 vs.length c1, .slice a2 fs.length c2, .slice a3 rs.length c3], .agg #[.bool li, .slice e1 xs.length d1, .slice e2 ys.length d2]] w
    fun e w' => e = .returned (.string (if envB vs fs rs li xs ys = true then envT li vs rs xs ys else ⟨#[]⟩)) ∧ Below w.heap.size w w' := by
  have HV := hide hv
  have HF := hide hf
  have HR := hide hr
  have HX := hide hx
  have HY := hide hy
  have HZ := hide hz
  have HIX := hide ix
  have HIY := hide iy
  have T0 := (C3.new w (.slice a1 vs.length c1) (.slice a2 fs.length c2) (.slice a3 rs.length c3) 27).alloc (Obj.cells #[.bool li, .slice e1 xs.length d1, .slice e2 ys.length d2] 43)
  have T1 := C3.new (w.alloc (Obj.cells #[.slice a1 vs.length c1, .slice a2 fs.length c2, .slice a3 rs.length c3] 27)) (.bool li) (.slice e1 xs.length d1) (.slice e2 ys.length d2) 43
  have K0 : Below w.heap.size w ((w.alloc (Obj.cells #[.slice a1 vs.length c1, .slice a2 fs.length c2, .slice a3 rs.length c3] 27)).alloc (Obj.cells #[.bool li, .slice e1 xs.length d1, .slice e2 ys.length d2] 43)) := ((Below.refl _ _).alloc (Nat.le_refl _) _).alloc (by simp) _
  rw [show (w.alloc (Obj.cells #[.slice a1 vs.length c1, .slice a2 fs.length c2, .slice a3 rs.length c3] 27)).heap.size = w.heap.size + 1 by simp] at T1
  have HT0 := hide T0
  have HT1 := hide T1
  have HK := hide K0
  clear T0 T1 K0 hv hf hr hx hy ix iy hz
  obtain ⟨D, hD⟩ : ∃ D, D = w.heap.size := ⟨_, rfl⟩
  obtain ⟨V, hV⟩ : ∃ V, V = (if envB vs fs rs li xs ys = true then envT li vs rs xs ys else ⟨#[]⟩) := ⟨_, rfl⟩
  rw [← hV]
  have HVV := hide hV
  clear hV
  go_enter Tryd.func26, Tryd.ntmps26
  go_upto_region 1 with fail
  generalize (w.alloc (Obj.cells #[.slice a1 vs.length c1, .slice a2 fs.length c2, .slice a3 rs.length c3] 27)).alloc (Obj.cells #[.bool li, .slice e1 xs.length d1, .slice e2 ys.length d2] 43) = u at HT0 HT1 HK ⊢
  rw [← hD] at HT0 HT1 ⊢
  clear hD
  have b0 := (unhide HT0).1
  have b1 := (unhide HT0).2.1
  have b2 := (unhide HT0).2.2.1
  have t0 := (unhide HT1).1
  have t1 := (unhide HT1).2.1
  have t2 := (unhide HT1).2.2.1
  go_wp2_with fail
  refine (sEnvOk_c a1 a2 a3 c1 c2 c3 vs fs rs li e1 e2 d1 d2 xs ys _ ((unhide HV).call (unhide HK)) ((unhide HF).call (unhide HK)) ((unhide HR).call (unhide HK)) (unhide HZ) ((unhide HX).call (unhide HK)) ((unhide HY).call (unhide HK))).mono ?_
  rintro e u1 ⟨rfl, kb⟩
  have HT0 := hide ((unhide HT0).call kb)
  have HT1 := hide ((unhide HT1).call kb)
  have HK := hide ((unhide HK).trans (kb.mono (unhide HK).size))
  clear kb b0 b1 b2 t0 t1 t2
  cases hok : envB vs fs rs li xs ys
  · have HN := hide (show V = ⟨#[]⟩ by rw [unhide HVV, hok]; rfl)
    clear hok HVV
    go_wp2
    go_ret
    exact ⟨by rw [unhide HN]; rfl, unhide HK⟩
  have HN := hide (show V = envT li vs rs xs ys by rw [unhide HVV, hok]; rfl)
  have HL := hide (env_lensE hok)
  have HZV := hide (show ∀ x ∈ vs, x.size ≤ 1048576 from fun x hx => unhide HZ x (by unfold namesOf; simp [hx]))
  have HZR := hide (show ∀ i, (h : i < rs.length) → rs[i].1.size ≤ 1048576 from fun i h => unhide HZ _ (by unfold namesOf; simp only [List.mem_append, List.mem_map]; exact .inr ⟨rs[i], List.getElem_mem _, rfl⟩))
  clear hok HVV
  have b0 := (unhide HT0).1
  have b1 := (unhide HT0).2.1
  have b2 := (unhide HT0).2.2.1
  have t0 := (unhide HT1).1
  have t1 := (unhide HT1).2.1
  have t2 := (unhide HT1).2.2.1
  go_wp2_with fail
  refine (l13Env_c a1 a2 a3 c1 c2 c3 vs fs rs li e1 e2 d1 d2 xs ys _ ((unhide HV).call (unhide HK)) ((unhide HR).call (unhide HK)) ((unhide HX).call (unhide HK)) ((unhide HY).call (unhide HK)) (unhide HIX) (unhide HIY) (unhide HZV) (unhide HZR) (unhide HL)).mono ?_
  rintro e u2 ⟨rfl, kb⟩
  rw [← unhide HN]
  have HK := hide ((unhide HK).trans (kb.mono (unhide HK).size))
  clear kb b0 b1 b2 t0 t1 t2
  go_wp2
  go_ret
  exact ⟨rfl, unhide HK⟩
end Go.Proofs.YtpdnnpnclgcpoaaDoor

