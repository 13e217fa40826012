/- Texts that go together: AppC, NameE, NameF, DeclD. -/
import Derived.Test.YtpdnnpnclgcpoaaDoorHaZ
import Derived.Maps.AppendAt
import Derived.Deep.AppendLies
import Derived.Test.YtpdnnpnclgcpoaaDoorNaZ
/- What is appended to a row of the call's own, in plain and in drawn regions, whatever is appended. -/
namespace Go.Proofs.YtpdnnpnclgcpoaaDoor
open Go.RowKit
set_option linter.unusedSimpArgs false

theorem app_form {w : World} {base : Nat} {e : TypeId} {size : Nat} {v : Value} {n : Nat} {xs : List Value} (h : w.ownsRow base e size v n xs) : ∃ oa cap, v = .slice oa n cap := by
  rcases h.2 with ⟨h0, h1⟩ | ⟨g, cap, cur, hv, _⟩
  · exact ⟨none, 0, by rw [h0, h1]⟩
  · exact ⟨_, cap, hv⟩
/-- What stands in a slice, be it nil. -/
def NewsO (w : World) (oa : Option Addr) (news : List Value) : Prop := news = [] ∨ ∃ ad, oa = some ad ∧ ∀ j u, news[j]? = some u → w.cell? (ad.add j) = some u
theorem run_append_ownO {P : Program} (w : World) (base : Nat) (t ty e : TypeId) (i : TypeInfo) (z : Value) (size bytes : Nat) (ht : P.underlying t = some (.slice e)) (hi : P.info? e = some i) (hz : i.zero = some z)
    (hsize : i.size = size) (hby : i.bytes = bytes) (hzs : z.cells.size = size) (hsz : 0 < size)
    (v : Value) (n : Nat) (xs : List Value) (hown : w.ownsRow base e size v n xs)
    (ox : Option Addr) (m c : Nat) (news : List Value) (hl : news.length = m * size) (hnews : NewsO w ox news) (h1 : ∀ u ∈ news, u.oneCell' = true)
    (h63 : n + m ≤ maxLen) (hbytes : (n + m) * bytes ≤ 140737488355328) (hbase : base ≤ w.heap.size) :
    ∃ v' w', (Builtin.append_ #[t, t] ty #[v, .slice ox m c]).run P w = .ok v' w' ∧ w'.ownsRow base e size v' (n + m) (xs ++ news) ∧ w.grownBy w' v.ownBlock ∧ (v'.ownBlock = v.ownBlock ∨ v'.ownBlock = some w.heap.size) := by
  cases ox with
  | some ad =>
    have hn : ∀ j u, news[j]? = some u → w.cell? (ad.add j) = some u := by
      rcases hnews with rfl | ⟨a, ha, hh⟩
      · intro j u hu; simp at hu
      · cases ha; exact hh
    obtain ⟨v', w', hr, h2, h3, _, h4⟩ := run_append_own_at (P := P) w base t ty e i z size bytes ht hi hz hsize hby hzs hsz v n xs hown ad m c news hl hn h1 h63 hbytes hbase
    exact ⟨v', w', hr, h2, h3, h4⟩
  | none =>
    have hn : news = [] := by
      rcases hnews with h | ⟨a, ha, _⟩
      · exact h
      · cases ha
    subst hn
    obtain rfl : m = 0 := by
      rcases Nat.eq_zero_or_pos m with h | h
      · exact h
      · have := Nat.mul_pos h hsz; simp at hl; omega
    have hg : w.grownBy w v.ownBlock := ⟨rfl, rfl, rfl, Nat.le_refl _, fun _ _ _ => rfl⟩
    have ho := hown
    rcases hown.2 with ⟨rfl, rfl⟩ | ⟨g, cap, cur, rfl, hbg, hg', hnc, hcm, hcs, htake⟩
    · have hx : xs = [] := List.eq_nil_of_length_eq_zero (by simpa using hown.1)
      subst hx
      refine ⟨.slice none 0 0, w, ?_, World.ownsRow_nil w base e size, hg, .inl rfl⟩
      simp [Builtin.append_, run_underlying ht, sizeOf, typeInfo, hi, Builtin.lenOf, Builtin.firstCells]
    · refine ⟨.slice (some ⟨g, 0, none⟩) n cap, w, ?_, by simpa using ho, hg, .inl rfl⟩
      simp [Builtin.append_, run_underlying ht, sizeOf, typeInfo, hi, Builtin.lenOf, Builtin.firstCells, hnc, storeCells]
section
variable {P : Program} (w : World)
/-- At the operation. -/
theorem wp_app {o : Oper} {a : Act} {K : Act → World → Prop} {Q : Exit → Act → World → Prop} (s x : Operand) (t : TypeId)
    (ho : o.op = .call { callee := .builtin .append, args := #[s, x], argTypes := #[t, t] })
    (base : Nat) (e : TypeId) (i : TypeInfo) (z : Value) (size bytes : Nat) (ht : P.underlying t = some (.slice e)) (hi : P.info? e = some i) (hz : i.zero = some z)
    (hsize : i.size = size) (hby : i.bytes = bytes) (hzs : z.cells.size = size) (hsz : 0 < size)
    (v : Value) (n : Nat) (xs : List Value) (hs : a.eval s = v) (hown : w.ownsRow base e size v n xs)
    (ad : Addr) (m c : Nat) (news : List Value) (hx : a.eval x = .slice (some ad) m c) (hl : news.length = m * size) (hnews : ∀ j u, news[j]? = some u → w.cell? (ad.add j) = some u) (h1 : ∀ u ∈ news, u.oneCell' = true)
    (h63 : n + m ≤ maxLen) (hbytes : (n + m) * bytes ≤ 140737488355328) (hbase : base ≤ w.heap.size)
    (h : ∀ oa cap w', w'.ownsRow base e size (.slice oa (n + m) cap) (n + m) (xs ++ news) → w.grownBy w' v.ownBlock → K (a.put o.dst (.slice oa (n + m) cap)) w') : o.wp P a w K Q := by
  obtain ⟨v', w', hr, h2, h3, _, _⟩ := run_append_own_at (P := P) w base t o.type e i z size bytes ht hi hz hsize hby hzs hsz v n xs hown ad m c news hl hnews h1 h63 hbytes hbase
  obtain ⟨oa, cap, rfl⟩ := app_form h2
  unfold Oper.wp execOp
  simp only [ho, resolve, invoke, builtin, Sem.run_bind, Sem.run_pure, Result.andThen_ok, List.map_toArray, List.map_cons, List.map_nil, hs, hx, hr]
  exact h oa cap w' h2 h3
theorem wpList_app {ops : Array Oper} {rest : List Oper} {o : Oper} {a : Act} {Q : Exit → Act → World → Prop} (hgd : o.guard = none) (s x : Operand) (t : TypeId)
    (ho : o.op = .call { callee := .builtin .append, args := #[s, x], argTypes := #[t, t] })
    (base : Nat) (e : TypeId) (i : TypeInfo) (z : Value) (size bytes : Nat) (ht : P.underlying t = some (.slice e)) (hi : P.info? e = some i) (hz : i.zero = some z)
    (hsize : i.size = size) (hby : i.bytes = bytes) (hzs : z.cells.size = size) (hsz : 0 < size)
    (v : Value) (n : Nat) (xs : List Value) (hs : a.eval s = v) (hown : w.ownsRow base e size v n xs)
    (ad : Addr) (m c : Nat) (news : List Value) (hx : a.eval x = .slice (some ad) m c) (hl : news.length = m * size) (hnews : ∀ j u, news[j]? = some u → w.cell? (ad.add j) = some u) (h1 : ∀ u ∈ news, u.oneCell' = true)
    (h63 : n + m ≤ maxLen) (hbytes : (n + m) * bytes ≤ 140737488355328) (hbase : base ≤ w.heap.size)
    (h : ∀ oa cap w', w'.ownsRow base e size (.slice oa (n + m) cap) (n + m) (xs ++ news) → w.grownBy w' v.ownBlock → wpList P ops Q rest (a.put o.dst (.slice oa (n + m) cap)) w') : wpList P ops Q (o :: rest) a w :=
  wpList_plain hgd fun _ hK => wp_app w s x t ho base e i z size bytes ht hi hz hsize hby hzs hsz v n xs hs hown ad m c news hx hl hnews h1 h63 hbytes hbase fun oa cap w' h2 h3 => hK _ _ (h oa cap w' h2 h3)
theorem step_app {ops : Array Oper} {o : Oper} {a : Act} {K : Act → World → Prop} {Q : Exit → Act → World → Prop} {E : Prop} (hgd : o.guard = none) (s x : Operand) (t : TypeId)
    (ho : o.op = .call { callee := .builtin .append, args := #[s, x], argTypes := #[t, t] })
    (base : Nat) (e : TypeId) (i : TypeInfo) (z : Value) (size bytes : Nat) (ht : P.underlying t = some (.slice e)) (hi : P.info? e = some i) (hz : i.zero = some z)
    (hsize : i.size = size) (hby : i.bytes = bytes) (hzs : z.cells.size = size) (hsz : 0 < size)
    (v : Value) (n : Nat) (xs : List Value) (hs : a.eval s = v) (hown : w.ownsRow base e size v n xs)
    (ad : Addr) (m c : Nat) (news : List Value) (hx : a.eval x = .slice (some ad) m c) (hl : news.length = m * size) (hnews : ∀ j u, news[j]? = some u → w.cell? (ad.add j) = some u) (h1 : ∀ u ∈ news, u.oneCell' = true)
    (h63 : n + m ≤ maxLen) (hbytes : (n + m) * bytes ≤ 140737488355328) (hbase : base ≤ w.heap.size)
    (h : ∀ oa cap w', w'.ownsRow base e size (.slice oa (n + m) cap) (n + m) (xs ++ news) → w.grownBy w' v.ownBlock → K (a.put o.dst (.slice oa (n + m) cap)) w') :
    if Region.wanted o (yielded ops a.tmps) = true then Oper.wp P o a w K Q else E := by
  have hw : Region.wanted o (yielded ops a.tmps) = true := by simp [Region.wanted, hgd]
  rw [if_pos hw]
  exact wp_app w s x t ho base e i z size bytes ht hi hz hsize hby hzs hsz v n xs hs hown ad m c news hx hl hnews h1 h63 hbytes hbase h
end
section
variable {P : Program} (w : World)
/-- At the operation. -/
theorem wp_appO {o : Oper} {a : Act} {K : Act → World → Prop} {Q : Exit → Act → World → Prop} (s x : Operand) (t : TypeId)
    (ho : o.op = .call { callee := .builtin .append, args := #[s, x], argTypes := #[t, t] })
    (base : Nat) (e : TypeId) (i : TypeInfo) (z : Value) (size bytes : Nat) (ht : P.underlying t = some (.slice e)) (hi : P.info? e = some i) (hz : i.zero = some z)
    (hsize : i.size = size) (hby : i.bytes = bytes) (hzs : z.cells.size = size) (hsz : 0 < size)
    (v : Value) (n : Nat) (xs : List Value) (hs : a.eval s = v) (hown : w.ownsRow base e size v n xs)
    (ad : Option Addr) (m c : Nat) (news : List Value) (hx : a.eval x = .slice ad m c) (hl : news.length = m * size) (hnews : NewsO w ad news) (h1 : ∀ u ∈ news, u.oneCell' = true)
    (h63 : n + m ≤ maxLen) (hbytes : (n + m) * bytes ≤ 140737488355328) (hbase : base ≤ w.heap.size)
    (h : ∀ oa cap w', w'.ownsRow base e size (.slice oa (n + m) cap) (n + m) (xs ++ news) → w.grownBy w' v.ownBlock → K (a.put o.dst (.slice oa (n + m) cap)) w') : o.wp P a w K Q := by
  obtain ⟨v', w', hr, h2, h3, _⟩ := run_append_ownO (P := P) w base t o.type e i z size bytes ht hi hz hsize hby hzs hsz v n xs hown ad m c news hl hnews h1 h63 hbytes hbase
  obtain ⟨oa, cap, rfl⟩ := app_form h2
  unfold Oper.wp execOp
  simp only [ho, resolve, invoke, builtin, Sem.run_bind, Sem.run_pure, Result.andThen_ok, List.map_toArray, List.map_cons, List.map_nil, hs, hx, hr]
  exact h oa cap w' h2 h3
theorem wpList_appO {ops : Array Oper} {rest : List Oper} {o : Oper} {a : Act} {Q : Exit → Act → World → Prop} (hgd : o.guard = none) (s x : Operand) (t : TypeId)
    (ho : o.op = .call { callee := .builtin .append, args := #[s, x], argTypes := #[t, t] })
    (base : Nat) (e : TypeId) (i : TypeInfo) (z : Value) (size bytes : Nat) (ht : P.underlying t = some (.slice e)) (hi : P.info? e = some i) (hz : i.zero = some z)
    (hsize : i.size = size) (hby : i.bytes = bytes) (hzs : z.cells.size = size) (hsz : 0 < size)
    (v : Value) (n : Nat) (xs : List Value) (hs : a.eval s = v) (hown : w.ownsRow base e size v n xs)
    (ad : Option Addr) (m c : Nat) (news : List Value) (hx : a.eval x = .slice ad m c) (hl : news.length = m * size) (hnews : NewsO w ad news) (h1 : ∀ u ∈ news, u.oneCell' = true)
    (h63 : n + m ≤ maxLen) (hbytes : (n + m) * bytes ≤ 140737488355328) (hbase : base ≤ w.heap.size)
    (h : ∀ oa cap w', w'.ownsRow base e size (.slice oa (n + m) cap) (n + m) (xs ++ news) → w.grownBy w' v.ownBlock → wpList P ops Q rest (a.put o.dst (.slice oa (n + m) cap)) w') : wpList P ops Q (o :: rest) a w :=
  wpList_plain hgd fun _ hK => wp_appO w s x t ho base e i z size bytes ht hi hz hsize hby hzs hsz v n xs hs hown ad m c news hx hl hnews h1 h63 hbytes hbase fun oa cap w' h2 h3 => hK _ _ (h oa cap w' h2 h3)
theorem step_appO {ops : Array Oper} {o : Oper} {a : Act} {K : Act → World → Prop} {Q : Exit → Act → World → Prop} {E : Prop} (hgd : o.guard = none) (s x : Operand) (t : TypeId)
    (ho : o.op = .call { callee := .builtin .append, args := #[s, x], argTypes := #[t, t] })
    (base : Nat) (e : TypeId) (i : TypeInfo) (z : Value) (size bytes : Nat) (ht : P.underlying t = some (.slice e)) (hi : P.info? e = some i) (hz : i.zero = some z)
    (hsize : i.size = size) (hby : i.bytes = bytes) (hzs : z.cells.size = size) (hsz : 0 < size)
    (v : Value) (n : Nat) (xs : List Value) (hs : a.eval s = v) (hown : w.ownsRow base e size v n xs)
    (ad : Option Addr) (m c : Nat) (news : List Value) (hx : a.eval x = .slice ad m c) (hl : news.length = m * size) (hnews : NewsO w ad news) (h1 : ∀ u ∈ news, u.oneCell' = true)
    (h63 : n + m ≤ maxLen) (hbytes : (n + m) * bytes ≤ 140737488355328) (hbase : base ≤ w.heap.size)
    (h : ∀ oa cap w', w'.ownsRow base e size (.slice oa (n + m) cap) (n + m) (xs ++ news) → w.grownBy w' v.ownBlock → K (a.put o.dst (.slice oa (n + m) cap)) w') :
    if Region.wanted o (yielded ops a.tmps) = true then Oper.wp P o a w K Q else E := by
  have hw : Region.wanted o (yielded ops a.tmps) = true := by simp [Region.wanted, hgd]
  rw [if_pos hw]
  exact wp_appO w s x t ho base e i z size bytes ht hi hz hsize hby hzs hsz v n xs hs hown ad m c news hx hl hnews h1 h63 hbytes hbase h
end
theorem C3.grown {u v : World} {b : Nat} {x y z : Value} {row : Option Nat} (h : C3 u b x y z) (hg : u.grownBy v row) (hne : some b ≠ row) : C3 v b x y z := by
  have k : b < u.heap.size := h.lt
  exact ⟨(hg.cell_far ⟨b, 0, none⟩ k hne).trans h.1, (hg.cell_far ⟨b, 1, none⟩ k hne).trans h.2.1, (hg.cell_far ⟨b, 2, none⟩ k hne).trans h.2.2.1, fun o => (hg.frozen_far ⟨b, o, none⟩ k hne).trans (h.2.2.2 o)⟩
end Go.Proofs.YtpdnnpnclgcpoaaDoor

/- Names, as the specification asks for them. -/
namespace Go.Proofs.YtpdnnpnclgcpoaaDoor
open Go.RowKit
set_option linter.unusedSimpArgs false

def allL (s : ByteArray) : Bool := s.data.toList.all fun c => letB (c.toNat : Int)
theorem allL_yes (s : ByteArray) (h : ∀ i, (hi : i < s.size) → letB (s[i].toNat : Int) = true) : allL s = true := by
  unfold allL
  rw [List.all_eq_true]
  intro c hc
  obtain ⟨i, hi, rfl⟩ := List.getElem_of_mem hc
  exact h i (by simpa using hi)
theorem allL_no (s : ByteArray) (k : Nat) (hk : k < s.size) (h : letB (s[k].toNat : Int) = false) : allL s = false := by
  unfold allL
  rw [List.all_eq_false]
  exact ⟨s[k], by show s.data[k] ∈ s.data.toList; simp, by simp [h]⟩
/-- What is a name. -/
def nameB (s : ByteArray) : Bool := allL s && (inB s.size 1 8 && !keyB s)
theorem let_cases (c : Int) : letB c = true ∧ 97 ≤ c ∧ c ≤ 122 ∨ letB c = false ∧ (c < 97 ∨ 122 < c) := by
  unfold letB
  by_cases h : 97 ≤ c ∧ c ≤ 122
  · exact .inl ⟨decide_eq_true h, h⟩
  · exact .inr ⟨decide_eq_false h, by omega⟩
set_option maxHeartbeats 1000000 in
theorem l3Name_c (s : ByteArray) (hs : s.size ≤ 1048576) (w : World) : Calls Tryd.prog 86 #[.string s] w fun e w' => e = .returned (.bool (nameB s)) ∧ Below w.heap.size w w' := by
  have hs' : (s.size : Int) ≤ 1048576 := by omega
  go_enter Tryd.func86, Tryd.ntmps86
  go_wp2
  go_loop [3] (fun i => ∃ k : Nat, k ≤ s.size ∧ i = .int .i64 k ∧ ∀ i, (h : i < s.size) → i < k → letB (s[i].toNat : Int) = true) (fun i => s.size - (intOf i).toNat)
  case atStart => exact ⟨0, Nat.zero_le _, rfl, fun i _ h => by omega⟩
  case round =>
    obtain ⟨k, hk, rfl, hall⟩ := hrel
    have HA := hide hall
    clear hall
    by_cases hlt : k < s.size
    · rcases let_cases (s[k].toNat : Int) with ⟨hb, h1, h2⟩ | ⟨hb, h1⟩
      · have HB := hide hb
        clear hb
        go_wp2
        go_round
        case rel =>
          refine ⟨k + 1, by omega, by go_num, fun i h hi => ?_⟩
          by_cases e : i = k
          · subst e; exact unhide HB
          · exact unhide HA i h (by omega)
        case measure => simp [intOf]; omega
      · have HN := hide (show nameB s = false by unfold nameB; rw [allL_no s k hlt hb]; rfl)
        clear hb
        rcases h1 with h1 | h1
        · go_wp2
          go_ret
          exact ⟨by rw [unhide HN]; rfl, Below.refl _ _⟩
        · have h2 : ¬ (s[k].toNat : Int) < 97 := by omega
          go_wp2
          go_ret
          exact ⟨by rw [unhide HN]; rfl, Below.refl _ _⟩
    · have HL := hide (show nameB s = (inB s.size 1 8 && !keyB s) by unfold nameB; rw [allL_yes s (fun i h => unhide HA i h (by omega))]; rfl)
      cases hi : inB (s.size : Int) 1 8
      · rw [hi] at HL
        go_wp2_with (go_at_call 85; refine (l1In_c _ _ _ _).mono ?_; rintro e w' ⟨rfl, rfl⟩)
        go_ret
        exact ⟨by rw [unhide HL]; rfl, Below.refl _ _⟩
      · rw [hi] at HL
        go_wp2_with fail
        refine (l1In_c _ _ _ _).mono ?_
        rintro e w' ⟨rfl, rfl⟩
        go_wp2_with fail
        refine (l3Key_c _ _).mono ?_
        rintro e w1 ⟨rfl, hb⟩
        have K := hide hb
        clear hb
        go_wp2
        go_ret
        exact ⟨by rw [unhide HL]; rfl, unhide K⟩
end Go.Proofs.YtpdnnpnclgcpoaaDoor

/- Names, as the program asks for them: the words that are none lie in a variable of the package. -/
namespace Go.Proofs.YtpdnnpnclgcpoaaDoor
open Go.RowKit
set_option linter.unusedSimpArgs false

/-- The words lie in the package's variable. -/
def KW (w : World) : Prop := ∀ k, (h : k < keysL.length) → w.cell? ⟨0, k, none⟩ = some (.string keysL[k])
theorem KW.call {w w1 : World} (h : KW w) (hb : Below w.heap.size w w1) : KW w1 := fun k hk => (hb.cell (World.block_lt_of_cell? w _ (h k hk))).trans (h k hk)
def kwV : Value := .agg #[.string ⟨#[118, 97, 114]⟩, .string ⟨#[102, 108, 97, 103]⟩, .string ⟨#[97, 114, 114, 97, 121]⟩, .string ⟨#[105, 102]⟩, .string ⟨#[102, 111, 114, 107]⟩, .string ⟨#[101, 108, 115, 101]⟩, .string ⟨#[101, 110, 100]⟩, .string ⟨#[119, 104, 105, 108, 101]⟩, .string ⟨#[117, 110, 114, 111, 108, 108]⟩, .string ⟨#[97, 115, 115, 101, 114, 116]⟩, .string ⟨#[97, 115, 115, 117, 109, 101]⟩, .string ⟨#[105, 110, 112, 117, 116]⟩, .string ⟨#[115, 112, 108, 105, 116]⟩, .string ⟨#[109, 101, 114, 103, 101]⟩, .string ⟨#[116, 114, 117, 101]⟩, .string ⟨#[102, 97, 108, 115, 101]⟩]
theorem kwSize : (Tryd.prog.info? 9).map (fun i => (i.zero, i.size, i.bytes)) = some (some (.string ⟨#[]⟩), 1, 16) := by kernel_rfl
theorem kwIdx (A : Array Value) (k : Nat) (x : ByteArray) (hk : k < 16) (h : A[k]? = some (.string x)) (w : World) : (Instr.index 147 (.agg A) (.int .i64 (k : Int))).run Tryd.prog w = .ok (.string x) w := by
  have h0 : (0 : Int) ≤ k ∧ (k : Int) < 16 := by omega
  obtain ⟨inf, hi, hz0, hz1, hz2⟩ := info_parts kwSize
  simp [Instr.index, run_underlying Tryd.underlying147, asIntOf, h0, go_sem, sizeOf, typeInfo, hi, hz1]
  rw [if_pos hk, h]
  rfl
set_option maxHeartbeats 1000000 in
theorem nameOk_c (s : ByteArray) (hs : s.size ≤ 1048576) (w : World) (hk : KW w) : Calls Tryd.prog 89 #[.string s] w fun e w' => e = .returned (.bool (nameB s)) ∧ w' = w := by
  have hs' : (s.size : Int) ≤ 1048576 := by omega
  have HK := hide hk
  have c0 := hk 0 (by decide)
  have c1 := hk 1 (by decide)
  have c2 := hk 2 (by decide)
  have c3 := hk 3 (by decide)
  have c4 := hk 4 (by decide)
  have c5 := hk 5 (by decide)
  have c6 := hk 6 (by decide)
  have c7 := hk 7 (by decide)
  have c8 := hk 8 (by decide)
  have c9 := hk 9 (by decide)
  have c10 := hk 10 (by decide)
  have c11 := hk 11 (by decide)
  have c12 := hk 12 (by decide)
  have c13 := hk 13 (by decide)
  have c14 := hk 14 (by decide)
  have c15 := hk 15 (by decide)
  clear hk
  by_cases h0 : s.size = 0
  · have HN := hide (show nameB s = false by unfold nameB inB; rw [h0]; simp)
    have HE : Hid (s = ⟨#[]⟩) := hide (show s = ByteArray.empty by simpa using h0)
    rw [unhide HE] at HN ⊢
    go_enter Tryd.func89, Tryd.ntmps89
    go_wp2
    go_ret
    exact ⟨by rw [unhide HN]; rfl, rfl⟩
  have hne : (s.toList == ([] : List UInt8)) = false := by
    cases e : (s.toList == ([] : List UInt8))
    · rfl
    · exfalso
      have e2 : s.toList = [] := by simpa using e
      apply h0
      rw [ByteArray.toList_eq] at e2
      exact congrArg List.length e2
  by_cases h8 : 8 < (s.size : Int)
  · have HN := hide (show nameB s = false by unfold nameB inB; rw [show decide ((1 : Int) ≤ s.size ∧ (s.size : Int) ≤ 8) = false from decide_eq_false (by omega)]; simp)
    go_enter Tryd.func89, Tryd.ntmps89
    go_wp2
    go_ret
    exact ⟨by rw [unhide HN]; rfl, rfl⟩
  have Hne := hide hne
  go_enter Tryd.func89, Tryd.ntmps89
  go_wp2_with fail
  refine (runOf_c _ hs _).mono ?_
  rintro e w' ⟨n, rfl, hr, rfl⟩
  have HR := hide hr
  clear hr
  by_cases hn : n < s.size
  · have HN := hide (show nameB s = false by
      rcases (unhide HR).2.2 with h | ⟨h, hb⟩
      · omega
      · unfold nameB; rw [allL_no s n h hb]; rfl)
    go_wp2
    go_ret
    exact ⟨by rw [unhide HN]; rfl, rfl⟩
  have HL := hide (show nameB s = !keyB s by
    unfold nameB
    rw [allL_yes s (fun i h => (unhide HR).2.1 i h (by omega)), show inB s.size 1 8 = true from decide_eq_true (by omega)]
    simp)
  go_wp2
  clear c0 c1 c2 c3 c4 c5 c6 c7 c8 c9 c10 c11 c12 c13 c14 c15
  obtain ⟨A, hA⟩ : ∃ A : Array Value, A = #[.string keysL[0], .string keysL[1], .string keysL[2], .string keysL[3], .string keysL[4], .string keysL[5], .string keysL[6], .string keysL[7], .string keysL[8], .string keysL[9], .string keysL[10], .string keysL[11], .string keysL[12], .string keysL[13], .string keysL[14], .string keysL[15]] := ⟨_, rfl⟩
  rw [← hA]
  have HA : Hid (∀ k, (h : k < keysL.length) → A[k]? = some (.string keysL[k])) := hide (fun k h => by
    rw [show A = (keysL.map Value.string).toArray from hA]
    simp [h])
  have hz : A.size = 16 := by rw [hA]; rfl
  clear hA
  go_loop [20] (fun i => ∃ k : Nat, k ≤ 16 ∧ i = .int .i64 k ∧ (keysL.take k).any (fun x => eqS x s) = false) (fun i => 16 - (intOf i).toNat)
  case atStart => exact ⟨0, by decide, rfl, rfl⟩
  case round =>
    obtain ⟨k, hk, rfl, hno⟩ := hrel
    have HN := hide hno
    clear hno
    by_cases hlt : k < 16
    · have hk' : k < keysL.length := by rw [keysL_len]; exact hlt
      have c := (unhide HA) k hk'
      have HS := hide (key_snoc s k hk')
      have HT := hide (show eqS keysL[k] s = true → keyB s = true from fun e => by unfold keyB; rw [List.any_eq_true]; exact ⟨_, List.getElem_mem hk', e⟩)
      generalize keysL[k] = x at c HS HT
      have hlt' : (k : Int) < 16 := by omega
      have hI := kwIdx A k x hlt c
      clear c
      by_cases hx : s.toList = x.toList
      · have HX := hide (show keyB s = true from unhide HT (decide_eq_true hx.symm))
        go_wp2
        go_ret
        exact ⟨by rw [unhide HL, unhide HX]; rfl, rfl⟩
      · have HX := hide (show eqS x s = false from decide_eq_false (fun e => hx e.symm))
        have hx2 : (s.toList == x.toList) = false := by simpa using hx
        clear hx
        go_wp2
        go_round
        case rel => exact ⟨k + 1, by omega, by go_num, by rw [unhide HS, unhide HN, unhide HX]; rfl⟩
        case measure => simp [intOf]; omega
    · obtain rfl : k = 16 := by omega
      have HF := hide (show keyB s = false from unhide HN)
      go_wp2
      go_ret
      exact ⟨by rw [unhide HL, unhide HF]; rfl, rfl⟩
end Go.Proofs.YtpdnnpnclgcpoaaDoor

/- Declarations, as the specification asks for them. -/
namespace Go.Proofs.YtpdnnpnclgcpoaaDoor
open Go.RowKit
set_option linter.unusedSimpArgs false

/-- All are names, and none is there twice. -/
def namesP (all : List ByteArray) : Prop := ∀ k, (h : k < all.length) → nameB all[k] = true ∧ (all.take k).any (fun x => eqS x all[k]) = false
instance (all : List ByteArray) : Decidable (namesP all) := by unfold namesP; infer_instance
def namesOf (vs fs : List ByteArray) (rs : List (ByteArray × Int)) : List ByteArray := vs ++ fs ++ rs.map (·.1)
/-- A right declaration. -/
def declP (vs fs : List ByteArray) (rs : List (ByteArray × Int)) : Prop := vs.length ≤ 5 ∧ fs.length ≤ 3 ∧ rs.length ≤ 2 ∧ (∀ k, (h : k < rs.length) → 1 ≤ rs[k].2 ∧ rs[k].2 ≤ 16) ∧ namesP (namesOf vs fs rs)
instance (vs fs : List ByteArray) (rs : List (ByteArray × Int)) : Decidable (declP vs fs rs) := by unfold declP; infer_instance
def declB (vs fs : List ByteArray) (rs : List (ByteArray × Int)) : Bool := decide (declP vs fs rs)
def cellsS (l : List ByteArray) : List Value := l.map Value.string
theorem cellsS_one (l : List ByteArray) : ∀ u ∈ cellsS l, u.oneCell' = true := by
 intro u hu
 obtain ⟨x, _, rfl⟩ := List.mem_map.1 hu
 rfl
theorem Strs.news {w : World} {a : Option Addr} {xs : List ByteArray} (h : Strs w a xs) : NewsO w a (cellsS xs) := by
 rcases h.2 with h0 | ⟨cb, co, rfl, hc⟩
 ·exact .inl (by unfold cellsS; rw [List.eq_nil_of_length_eq_zero h0]; rfl)
 refine .inr ⟨_, rfl, fun j u hu => ?_⟩
 have hadd : (⟨cb, co, none⟩ : Addr).add j = ⟨cb, co + j, none⟩ := by unfold Addr.add; split <;> simp_all
 rw [hadd]
 unfold cellsS at hu
 rw [List.getElem?_map] at hu
 cases hx : xs[j]? with
 | none => simp [hx] at hu
 | some x =>
  rw [hx] at hu
  obtain ⟨hj, hx2⟩ := List.getElem?_eq_some_iff.1 hx
  have := hc j hj
  rw [hx2] at this
  rw [this]
  simpa using hu
theorem Strs.ofOwn {w : World} {base : Nat} {oa : Option Addr} {n cap : Nat} {xs : List ByteArray} (h : w.ownsRow base 9 1 (.slice oa n cap) n (cellsS xs)) (hl : n ≤ 1048576) : n = xs.length ∧ Strs w oa xs := by
 have hn : n = xs.length := by have := h.1; simp [cellsS] at this; omega
 refine ⟨hn, by omega, ?_⟩
 rcases h.2 with ⟨_, h1⟩ | ⟨g, cap', cur, hv, _⟩
 ·exact .inl (by omega)
 ·cases hv
  refine .inr ⟨g, 0, rfl, fun i hi => ?_⟩
  have k := h.cells (g := g) rfl i (.string xs[i]) (by simp [cellsS, hi])
  have hadd : (⟨g, 0, none⟩ : Addr).add i = ⟨g, i, none⟩ := by unfold Addr.add; split <;> simp_all
  rw [hadd] at k
  rw [Nat.zero_add]
  exact k
theorem row0 (w : World) (base : Nat) (h : base ≤ w.heap.size) : (w.alloc (Obj.cells #[] 9)).ownsRow base 9 1 (.slice (some ⟨w.heap.size, 0, none⟩) 0 0) 0 [] :=
 ⟨rfl, .inr ⟨w.heap.size, 0, #[], rfl, h, heap_alloc_new w _, Nat.le_refl _, by unfold maxLen; omega, rfl, rfl⟩⟩
/-- What stays while names are gathered: the box, and the world below. -/
@[reducible] def SD (w0 : World) (x y z : Value) (w : World) : Prop := w.cell? ⟨w0.heap.size, 0, none⟩ = some x ∧ w.cell? ⟨w0.heap.size, 1, none⟩ = some y ∧ C3 w w0.heap.size x y z ∧ Below w0.heap.size w0 w ∧ w0.heap.size + 1 ≤ w.heap.size
theorem SD.of {w0 w : World} {x y z : Value} (h : C3 w w0.heap.size x y z) (k : Below w0.heap.size w0 w) : SD w0 x y z w := ⟨h.1, h.2.1, h, k, h.lt⟩
theorem SD.drew {w0 w : World} {x y z : Value} (h : SD w0 x y z w) : SD w0 x y z w.drew := SD.of ⟨h.2.2.1.1, h.2.2.1.2.1, h.2.2.1.2.2.1, h.2.2.1.2.2.2⟩ h.2.2.2.1.drew
theorem SD.alloc {w0 w : World} {x y z : Value} (h : SD w0 x y z w) (o : Obj) : SD w0 x y z (w.alloc o) := SD.of (h.2.2.1.alloc o) (h.2.2.2.1.alloc h.2.2.2.1.size o)
theorem SD.call {w0 w w1 : World} {x y z : Value} (hb : Below w.heap.size w w1) (h : SD w0 x y z w) : SD w0 x y z w1 := SD.of (h.2.2.1.call hb) (h.2.2.2.1.trans (hb.mono h.2.2.2.1.size))
theorem SD.grown {w0 w w1 : World} {x y z v : Value} {e : TypeId} {size n : Nat} {xs : List Value} (h : SD w0 x y z w) (ho : w.ownsRow (w0.heap.size + 1) e size v n xs) (hg : w.grownBy w1 v.ownBlock) : SD w0 x y z w1 :=
 SD.of (h.2.2.1.grown hg (fun e => by have := (ho.lt _ e.symm).1; omega)) (h.2.2.2.1.grown hg h.2.2.2.1.size (fun j hj => by have := (ho.lt j hj).1; omega))
theorem l3Place_k (a : Option Addr) (cap k : Nat) (xs : List ByteArray) (s : ByteArray) (w : World) (h : Strs w a xs) (hk : xs.length = k) : Calls Tryd.prog 87 #[.slice a k cap, .string s] w fun e w' => e = .returned (.int .i64 (plc s xs)) ∧ w' = w := by
 subst hk; exact l3Place_c a cap xs s w h
theorem own_cap {w : World} {base : Nat} {e : TypeId} {size : Nat} {oa : Option Addr} {n cap : Nat} {xs : List Value} (h : w.ownsRow base e size (.slice oa n cap) n xs) : n ≤ cap := by
 rcases h.2 with ⟨_, h1⟩ | ⟨g, cap', cur, hv, _, _, hnc, _⟩
 ·omega
 ·cases hv; exact hnc
theorem Strs.take {w : World} {a : Option Addr} {xs : List ByteArray} (h : Strs w a xs) (k : Nat) : Strs w a (xs.take k) := by
 refine ⟨by have := h.1; rw [List.length_take]; omega, ?_⟩
 rcases h.2 with h0 | ⟨cb, co, e, hc⟩
 ·exact .inl (by rw [List.length_take]; omega)
 ·refine .inr ⟨cb, co, e, fun i hi => ?_⟩
  rw [List.length_take] at hi
  rw [List.getElem_take]
  exact hc i (by omega)
set_option maxHeartbeats 2000000 in
theorem sDeclOk_c (a1 a2 a3 : Option Addr) (c1 c2 c3 : Nat) (vs fs : List ByteArray) (rs : List (ByteArray × Int)) (w : World) (hv : Strs w a1 vs) (hf : Strs w a2 fs) (hr : Arrs w a3 rs)
  (hz : ∀ x ∈ namesOf vs fs rs, x.size ≤ 1048576) :
  Calls Tryd.prog 45 #[.agg #[.slice a1 vs.length c1, .slice a2 fs.length c2, .slice a3 rs.length c3]] w fun e w' => e = .returned (.bool (declB vs fs rs)) ∧ Below w.heap.size w w' := by
 have HV := hide hv
 have HF := hide hf
 have HR := hide hr
 have HZ := hide hz
 have T0 := C3.new w (.slice a1 vs.length c1) (.slice a2 fs.length c2) (.slice a3 rs.length c3) 27
 have K0 := (Below.refl _ w).alloc (Nat.le_refl _) (Obj.cells #[.slice a1 vs.length c1, .slice a2 fs.length c2, .slice a3 rs.length c3] 27)
 have HT0 := hide T0
 have HK := hide K0
 clear T0 K0 hv hf hr hz
 by_cases h1 : 5 < vs.length
 ·have HN := hide (show declB vs fs rs = false from decide_eq_false (fun h => by have := h.1; omega))
  go_enter Tryd.func45, Tryd.ntmps45
  go_wp2
  go_ret
  exact ⟨by rw [unhide HN]; rfl, unhide HK⟩
 by_cases h2 : 3 < fs.length
 ·have HN := hide (show declB vs fs rs = false from decide_eq_false (fun h => by have := h.2.1; omega))
  go_enter Tryd.func45, Tryd.ntmps45
  go_wp2
  go_ret
  exact ⟨by rw [unhide HN]; rfl, unhide HK⟩
 by_cases h3 : 2 < rs.length
 ·have HN := hide (show declB vs fs rs = false from decide_eq_false (fun h => by have := h.2.2.1; omega))
  go_enter Tryd.func45, Tryd.ntmps45
  go_wp2
  go_ret
  exact ⟨by rw [unhide HN]; rfl, unhide HK⟩
 have h1' : ¬ (5 : Int) < (vs.length : Int) := by omega
 have h2' : ¬ (3 : Int) < (fs.length : Int) := by omega
 have h3' : ¬ (2 : Int) < (rs.length : Int) := by omega
 obtain ⟨inf, hi, hz0, hz1, hz2⟩ := info_parts strInfo
 go_enter Tryd.func45, Tryd.ntmps45
 go_wp2
 generalize w.alloc (Obj.cells #[.slice a1 vs.length c1, .slice a2 fs.length c2, .slice a3 rs.length c3] 27) = u at HT0 HK ⊢
 have hs := SD.of (unhide HT0) (unhide HK)
 go_region_held3 (SD w (.slice a1 vs.length c1) (.slice a2 fs.length c2) (.slice a3 rs.length c3))
  (first | exact SD.drew (by assumption) | exact SD.alloc (by assumption) _ | exact hs2 | exact hs3)
  (first
   | (refine step_appO _ (by rfl) _ _ _ (by rfl) (w.heap.size + 1) 9 inf (.string ⟨#[]⟩) 1 16 Tryd.underlying24 hi hz0 hz1 hz2 rfl (by decide) _ _ _ (by rfl) (row0 _ _ (by exact hs.2.2.2.2)) a1 vs.length c1 (cellsS vs) (by rfl) (by simp [cellsS]) (((unhide HV).call (hs.drew.alloc _).2.2.2.1).news) (cellsS_one _) (by unfold maxLen; omega) (by omega) (by exact (hs.drew.alloc _).2.2.2.2) ?_; intro oa cap w1 hown hgrow; have hs2 := SD.grown (hs.drew.alloc _) (row0 _ _ (by exact hs.2.2.2.2)) hgrow)
   | (refine step_appO _ (by rfl) _ _ _ (by rfl) (w.heap.size + 1) 9 inf (.string ⟨#[]⟩) 1 16 Tryd.underlying24 hi hz0 hz1 hz2 rfl (by decide) _ _ _ (by rfl) hown a2 fs.length c2 (cellsS fs) (by rfl) (by simp [cellsS]) (((unhide HF).call hs2.2.2.2.1).news) (cellsS_one _) (by unfold maxLen; omega) (by omega) hs2.2.2.2.2 ?_; intro ob cap2 w2 hown2 hgrow2; have hs3 := SD.grown hs2 hown hgrow2))
 have HO : Hid (w2.ownsRow (w.heap.size + 1) 9 1 (.slice ob (vs.length + fs.length) cap2) (vs.length + fs.length) (cellsS (vs ++ fs))) := hide (by
  rw [Nat.zero_add, List.nil_append] at hown2
  rw [show cellsS (vs ++ fs) = cellsS vs ++ cellsS fs by simp [cellsS]]
  exact hown2)
 have HT := hide hs3.2.2.1
 have HB := hide hs3.2.2.2.1
 clear HT0 HK
 clear hs hs2 hs3 hown hown2 hgrow hgrow2
 rename_i hHeld
 clear hHeld
 simp only [Nat.zero_add]
 go_wp2
 go_loopw [3, 4] (fun all i wr => ∃ (k : Nat) (oa : Option Addr) (cap : Nat), k ≤ rs.length ∧ i = .int .i64 k ∧ all = .slice oa (vs.length + fs.length + k) cap ∧ wr.ownsRow (w.heap.size + 1) 9 1 (.slice oa (vs.length + fs.length + k) cap) (vs.length + fs.length + k) (cellsS (vs ++ fs ++ (rs.take k).map (·.1))) ∧ (∀ j, (h : j < rs.length) → j < k → 1 ≤ rs[j].2 ∧ rs[j].2 ≤ 16) ∧ C3 wr w.heap.size (.slice a1 vs.length c1) (.slice a2 fs.length c2) (.slice a3 rs.length c3) ∧ Below w.heap.size w wr) (fun _ i _ => rs.length - (intOf i).toNat)
 case atStart => exact ⟨0, ob, cap2, Nat.zero_le _, rfl, rfl, by simpa using unhide HO, fun j _ h => by omega, unhide HT, unhide HB⟩
 case round =>
  clear HO HT HB
  obtain ⟨k, oa, cap, hk, rfl, rfl, ho, hall, ht, hb⟩ := hrel
  have HO := hide ho
  have HA := hide hall
  have HT := hide ht
  have HB := hide hb
  have b2 := ht.2.2.1
  clear ho hall ht
  by_cases hlt : k < rs.length
  ·rcases ((unhide HR).call hb).2 with h0 | ⟨cb, co, e, hc⟩
   ·omega
   cases e
   have d1 := (hc k hlt).1
   have d2 := (hc k hlt).2
   have HX := hide (show (rs.take (k + 1)).map (·.1) = (rs.take k).map (·.1) ++ [rs[k].1] by rw [List.take_succ_eq_append_getElem hlt, List.map_append]; rfl)
   have HI := hide (show inB rs[k].2 1 16 = true → ∀ j, (h : j < rs.length) → j < k + 1 → 1 ≤ rs[j].2 ∧ rs[j].2 ≤ 16 from fun e j h hj => by
    by_cases q : j = k
    ·subst q; exact of_decide_eq_true e
    ·exact unhide HA j h (by omega))
   have HJ := hide (show inB rs[k].2 1 16 = false → declB vs fs rs = false from fun e => decide_eq_false (fun h => absurd (h.2.2.2.1 k hlt) (of_decide_eq_false e)))
   clear hc hb
   generalize rs[k].1 = x at d1 HX
   generalize rs[k].2 = z at d2 HI HJ
   go_wp2_with fail
   refine (l1In_c _ _ _ _).mono ?_
   rintro e w' ⟨rfl, rfl⟩
   cases hin : inB z 1 16
   ·have HN := hide (unhide HJ hin)
    go_wp2
    go_ret
    exact ⟨by rw [unhide HN]; rfl, unhide HB⟩
   ·have HI2 := hide (unhide HI hin)
    clear HI HJ
    go_wp2_with (at_builtin; refine wpList_app _ rfl _ _ 24 rfl (w.heap.size + 1) 9 inf (.string ⟨#[]⟩) 1 16 Tryd.underlying24 hi hz0 hz1 hz2 rfl (by decide) _ _ _ rfl ((unhide HO).alloc _) ⟨_, 0, none⟩ 1 1 [.string x] rfl rfl (World.news_of_block (heap_alloc_new _ _)) (by simp [Value.oneCell']) (by unfold maxLen; omega) (by omega) (by have := (unhide HT).lt; simp; omega) ?_; intro oa' cap' w3 hown hgrow)
    have hs3 := SD.grown ((SD.of (unhide HT) (unhide HB)).alloc _) ((unhide HO).alloc _) hgrow
    have HO2 : Hid (w3.ownsRow (w.heap.size + 1) 9 1 (.slice oa' (vs.length + fs.length + k + 1) cap') (vs.length + fs.length + k + 1) (cellsS (vs ++ fs ++ (rs.take (k + 1)).map (·.1)))) := hide (by
     rw [unhide HX, ← List.append_assoc, show ∀ l, cellsS (l ++ [x]) = cellsS l ++ [.string x] from fun l => by simp [cellsS]]
     exact hown)
    have HT2 := hide hs3.2.2.1
    have HB2 := hide hs3.2.2.2.1
    clear HO HT HB hs3 hown hgrow d1 d2 b2
    go_wp2
    go_roundw
    case rel => exact ⟨k + 1, oa', cap', by omega, by go_num, rfl, unhide HO2, unhide HI2, unhide HT2, unhide HB2⟩
    case measure => simp [intOf]; omega
  ·obtain rfl : k = rs.length := by omega
   rw [show List.map (fun x : ByteArray × Int => x.1) (List.take rs.length rs) = rs.map (·.1) by rw [List.take_length]] at HO
   obtain ⟨hn, hst⟩ := Strs.ofOwn (unhide HO) (by omega)
   have hcap := own_cap (unhide HO)
   have HN := hide hn
   have HS := hide hst
   have HQ := hide (show namesP (namesOf vs fs rs) → declB vs fs rs = true from fun h => decide_eq_true ⟨by omega, by omega, by omega, fun j hj => unhide HA j hj hj, h⟩)
   have HQ2 := hide (show ∀ j, (h : j < (namesOf vs fs rs).length) → (nameB (namesOf vs fs rs)[j] = false ∨ ((namesOf vs fs rs).take j).any (fun x => eqS x (namesOf vs fs rs)[j]) = true) → declB vs fs rs = false from fun j h hh => decide_eq_false (fun hd => by
    have := hd.2.2.2.2 j h
    rcases hh with hh | hh
    ·rw [hh] at this; exact absurd this.1 (by simp)
    ·rw [hh] at this; exact absurd this.2 (by simp)))
   have hL : vs.length + fs.length + rs.length ≤ 10 := by omega
   have hZ := unhide HZ
   change Hid (_ = (namesOf vs fs rs).length) at HN
   change Hid (Strs wr oa (namesOf vs fs rs)) at HS
   clear hn hst HO HA HZ HT HV HF HR hb
   generalize namesOf vs fs rs = all at HN HS HQ HQ2 hZ
   have HZ := hide hZ
   clear hZ
   go_wp2
   clear b2
   generalize vs.length + fs.length + rs.length = L at HN hcap hL ⊢
   have hL' : (L : Int) ≤ 10 := by omega
   generalize wr = wo at HS HB ⊢
   go_loopw [5] (fun i wq => ∃ k : Nat, k ≤ L ∧ i = .int .i64 k ∧ (∀ j, (h : j < all.length) → j < k → nameB all[j] = true ∧ (all.take j).any (fun x => eqS x all[j]) = false) ∧ Below wo.heap.size wo wq) (fun i _ => L - (intOf i).toNat)
   case atStart => exact ⟨0, Nat.zero_le _, rfl, fun j _ h => by omega, Below.refl _ _⟩
   case round =>
    obtain ⟨k, hk, rfl, hall, hb⟩ := hrel
    have HA := hide hall
    have HB2 := hide hb
    by_cases hlt : k < L
    ·have hk' : k < all.length := by rw [← unhide HN]; exact hlt
     have hst := (unhide HS).call hb
     have HS2 := hide ((unhide HS).take k)
     have HLk := hide (show (all.take k).length = k by rw [List.length_take]; omega)
     rcases hst.2 with h0 | ⟨cb, co, rfl, hc⟩
     ·omega
     have d := hc k hk'
     have sz := unhide HZ _ (List.getElem_mem hk')
     have HG := hide (show nameB all[k] = true → (all.take k).any (fun x => eqS x all[k]) = false → ∀ j, (h : j < all.length) → j < k + 1 → nameB all[j] = true ∧ (all.take j).any (fun x => eqS x all[j]) = false from fun e1 e2 j h hj => by
      by_cases q : j = k
      ·subst q; exact ⟨e1, e2⟩
      ·exact unhide HA j h (by omega))
     have HF1 := hide (unhide HQ2 k hk')
     clear hc hall
     have HP := hide (plc_ge all[k] (all.take k))
     generalize all[k] = x at d sz HG HF1 HP
     have hh : H1 wo ⟨cb, co + k, none⟩ (.string x) wr := ⟨d, hb⟩
     cases hx : nameB x
     ·have HN2 := hide (unhide HF1 (.inl hx))
      go_wp2
      refine wp_region_held_drew (S := H1 wo ⟨cb, co + k, none⟩ (.string x)) (by kernel_rfl) (H1.drew hh) (fun hHeld => ?_)
      refine wpAnyH_take (i := 0) (oi := ⟨some 59, Op.move (Operand.tmp 3), 24, _, _, none⟩) (v := ?_) rfl (by kernel_rfl) (by kernel_rfl) (by kernel_rfl) (fun _ _ _ h => h) (Or.inl ⟨by rfl, ?_⟩) (by assumption) ?_
      rotate_left
      ·(intro w hSw; (try dsimp only at hSw); go_simp; try with_reducible rfl)
      try simp only [Act.put, List.setIfInBounds_toArray, List.set_cons_zero, List.set_cons_succ]
      refine wpAnyH_take (i := 1) (oi := ⟨some 60, Op.move (Operand.tmp 5), 3, _, _, none⟩) (v := ?_) rfl (by kernel_rfl) (by kernel_rfl) (by kernel_rfl) (fun _ _ _ h => h) (Or.inl ⟨by rfl, ?_⟩) (by assumption) ?_
      rotate_left
      ·(intro w hSw; (try dsimp only at hSw); go_simp; try with_reducible rfl)
      try simp only [Act.put, List.setIfInBounds_toArray, List.set_cons_zero, List.set_cons_succ]
      refine wpAnyH_take (i := 2) (oi := ⟨some 61, Op.indexAddr 24 (Operand.tmp 59) (Operand.tmp 60), 0, _, _, none⟩) (v := ?_) rfl (by kernel_rfl) (by kernel_rfl) (by kernel_rfl) (fun _ _ _ h => h) (Or.inl ⟨by rfl, ?_⟩) (by assumption) ?_
      rotate_left
      ·(intro w hSw; (try dsimp only at hSw); go_simp; try with_reducible rfl)
      try simp only [Act.put, List.setIfInBounds_toArray, List.set_cons_zero, List.set_cons_succ]
      refine wpAnyH_take (i := 3) (oi := ⟨some 62, Op.load 9 (Operand.tmp 61), 9, _, _, none⟩) (v := ?_) rfl (by kernel_rfl) (by kernel_rfl) (by kernel_rfl) (fun _ _ _ h => h) (Or.inl ⟨by rfl, ?_⟩) (by assumption) ?_
      rotate_left
      ·(intro w hSw; (try dsimp only at hSw); go_simp; try with_reducible rfl)
      try simp only [Act.put, List.setIfInBounds_toArray, List.set_cons_zero, List.set_cons_succ]
      refine wpAnyH_ready (rs := [4]) (by kernel_rfl) (by simp) ?_
      refine AllReadyH.cons (i := 4) (o := ⟨some 63, Op.call { callee := Callee.value (Operand.func 86), args := #[Operand.tmp 62], argTypes := #[9] }, 4, _, _, none⟩) rfl (fun K hK => ?_) AllReadyH.nil
      go_simp
      (refine (l3Name_c _ sz _).mono ?_; rintro e w3 ⟨rfl, hb⟩; rw [hx])
      refine hK.out _ _ (by first | exact hHeld | exact H1.call hb (by assumption)) (fun hHeld => ?_)
      clear hK K
      try simp only [Act.put, List.setIfInBounds_toArray, List.set_cons_zero, List.set_cons_succ]
      refine wpAnyH_take (i := 5) (oi := ⟨some 64, Op.unOp UnOp.not 4 (Operand.tmp 63), 4, _, _, none⟩) (v := ?_) rfl (by kernel_rfl) (by kernel_rfl) (by kernel_rfl) (fun _ _ _ h => h) (Or.inl ⟨by rfl, ?_⟩) (by assumption) ?_
      rotate_left
      ·(intro w hSw; (try dsimp only at hSw); go_simp; try with_reducible rfl)
      try simp only [Act.put, List.setIfInBounds_toArray, List.set_cons_zero, List.set_cons_succ]
      refine wpAnyH_take (i := 6) (oi := ⟨some 65, Op.move (Operand.tmp 64), 4, _, _, none⟩) (v := ?_) rfl (by kernel_rfl) (by kernel_rfl) (by kernel_rfl) (fun _ _ _ h => h) (Or.inl ⟨by rfl, ?_⟩) (by assumption) ?_
      rotate_left
      ·(intro w hSw; (try dsimp only at hSw); go_simp; try with_reducible rfl)
      try simp only [Act.put, List.setIfInBounds_toArray, List.set_cons_zero, List.set_cons_succ]
      refine wpAnyH_take (i := 7) (oi := ⟨some 66, Op.move (Operand.tmp 3), 24, _, _, some (6, false)⟩) (v := undef) rfl (by kernel_rfl) (by kernel_rfl) (by kernel_rfl) (fun _ _ _ h => h) (Or.inr ⟨by rfl, rfl⟩) (by assumption) ?_
      try simp only [Act.put, List.setIfInBounds_toArray, List.set_cons_zero, List.set_cons_succ]
      refine wpAnyH_take (i := 8) (oi := ⟨some 67, Op.move (Operand.tmp 5), 3, _, _, some (6, false)⟩) (v := undef) rfl (by kernel_rfl) (by kernel_rfl) (by kernel_rfl) (fun _ _ _ h => h) (Or.inr ⟨by rfl, rfl⟩) (by assumption) ?_
      try simp only [Act.put, List.setIfInBounds_toArray, List.set_cons_zero, List.set_cons_succ]
      refine wpAnyH_take (i := 9) (oi := ⟨some 68, Op.slice 24 (Operand.tmp 66) none (some (Operand.tmp 67)) none, 24, _, _, some (6, false)⟩) (v := undef) rfl (by kernel_rfl) (by kernel_rfl) (by kernel_rfl) (fun _ _ _ h => h) (Or.inr ⟨by rfl, rfl⟩) (by assumption) ?_
      try simp only [Act.put, List.setIfInBounds_toArray, List.set_cons_zero, List.set_cons_succ]
      refine wpAnyH_take (i := 10) (oi := ⟨some 69, Op.move (Operand.tmp 3), 24, _, _, some (6, false)⟩) (v := undef) rfl (by kernel_rfl) (by kernel_rfl) (by kernel_rfl) (fun _ _ _ h => h) (Or.inr ⟨by rfl, rfl⟩) (by assumption) ?_
      try simp only [Act.put, List.setIfInBounds_toArray, List.set_cons_zero, List.set_cons_succ]
      refine wpAnyH_take (i := 11) (oi := ⟨some 70, Op.move (Operand.tmp 5), 3, _, _, some (6, false)⟩) (v := undef) rfl (by kernel_rfl) (by kernel_rfl) (by kernel_rfl) (fun _ _ _ h => h) (Or.inr ⟨by rfl, rfl⟩) (by assumption) ?_
      try simp only [Act.put, List.setIfInBounds_toArray, List.set_cons_zero, List.set_cons_succ]
      refine wpAnyH_take (i := 12) (oi := ⟨some 71, Op.indexAddr 24 (Operand.tmp 69) (Operand.tmp 70), 0, _, _, some (6, false)⟩) (v := undef) rfl (by kernel_rfl) (by kernel_rfl) (by kernel_rfl) (fun _ _ _ h => h) (Or.inr ⟨by rfl, rfl⟩) (by assumption) ?_
      try simp only [Act.put, List.setIfInBounds_toArray, List.set_cons_zero, List.set_cons_succ]
      refine wpAnyH_take (i := 13) (oi := ⟨some 72, Op.load 9 (Operand.tmp 71), 9, _, _, some (6, false)⟩) (v := undef) rfl (by kernel_rfl) (by kernel_rfl) (by kernel_rfl) (fun _ _ _ h => h) (Or.inr ⟨by rfl, rfl⟩) (by assumption) ?_
      try simp only [Act.put, List.setIfInBounds_toArray, List.set_cons_zero, List.set_cons_succ]
      refine wpAnyH_take (i := 14) (oi := ⟨some 73, Op.call { callee := Callee.value (Operand.func 87), args := #[Operand.tmp 68, Operand.tmp 72], argTypes := #[24, 9] }, 2, _, _, some (6, false)⟩) (v := undef) rfl (by kernel_rfl) (by kernel_rfl) (by kernel_rfl) (fun _ _ _ h => h) (Or.inr ⟨by rfl, rfl⟩) (by assumption) ?_
      try simp only [Act.put, List.setIfInBounds_toArray, List.set_cons_zero, List.set_cons_succ]
      refine wpAnyH_take (i := 15) (oi := ⟨some 74, Op.binOp BinOp.geq 2 (Operand.tmp 73) (Operand.const (Value.int IntKind.i64 0)) 2, 4, _, _, some (6, false)⟩) (v := undef) rfl (by kernel_rfl) (by kernel_rfl) (by kernel_rfl) (fun _ _ _ h => h) (Or.inr ⟨by rfl, rfl⟩) (by assumption) ?_
      try simp only [Act.put, List.setIfInBounds_toArray, List.set_cons_zero, List.set_cons_succ]
      refine wpAnyH_take (i := 16) (oi := ⟨some 75, Op.pick (Operand.tmp 65) (Operand.const (Value.bool true)) (Operand.tmp 74), 4, _, _, none⟩) (v := ?_) rfl (by kernel_rfl) (by kernel_rfl) (by kernel_rfl) (fun _ _ _ h => h) (Or.inl ⟨by rfl, ?_⟩) (by assumption) ?_
      rotate_left
      ·(intro w hSw; (try dsimp only at hSw); go_simp; try with_reducible rfl)
      try simp only [Act.put, List.setIfInBounds_toArray, List.set_cons_zero, List.set_cons_succ]
      refine wpAnyH_done (by kernel_rfl) ?_ _
      have HB3 := hide ((unhide HB).trans (hHeld.2.mono (unhide HB).size))
      clear hHeld hb
      go_wp2
      go_ret
      exact ⟨by rw [unhide HN2]; rfl, unhide HB3⟩
     ·have hkc : k ≤ cap := by omega
      cases ha : (all.take k).any (fun y => eqS y x)
      ·have hp : ¬ 0 ≤ plc x (all.take k) := of_decide_eq_false ((unhide HP).trans ha)
       have HG2 := hide (unhide HG hx ha)
       go_wp2
       refine wp_region_held_drew (S := H1 wo ⟨cb, co + k, none⟩ (.string x)) (by kernel_rfl) (H1.drew hh) (fun hHeld => ?_)
       refine wpAnyH_take (i := 0) (oi := ⟨some 59, Op.move (Operand.tmp 3), 24, _, _, none⟩) (v := ?_) rfl (by kernel_rfl) (by kernel_rfl) (by kernel_rfl) (fun _ _ _ h => h) (Or.inl ⟨by rfl, ?_⟩) (by assumption) ?_
       rotate_left
       ·(intro w hSw; (try dsimp only at hSw); go_simp; try with_reducible rfl)
       try simp only [Act.put, List.setIfInBounds_toArray, List.set_cons_zero, List.set_cons_succ]
       refine wpAnyH_take (i := 1) (oi := ⟨some 60, Op.move (Operand.tmp 5), 3, _, _, none⟩) (v := ?_) rfl (by kernel_rfl) (by kernel_rfl) (by kernel_rfl) (fun _ _ _ h => h) (Or.inl ⟨by rfl, ?_⟩) (by assumption) ?_
       rotate_left
       ·(intro w hSw; (try dsimp only at hSw); go_simp; try with_reducible rfl)
       try simp only [Act.put, List.setIfInBounds_toArray, List.set_cons_zero, List.set_cons_succ]
       refine wpAnyH_take (i := 2) (oi := ⟨some 61, Op.indexAddr 24 (Operand.tmp 59) (Operand.tmp 60), 0, _, _, none⟩) (v := ?_) rfl (by kernel_rfl) (by kernel_rfl) (by kernel_rfl) (fun _ _ _ h => h) (Or.inl ⟨by rfl, ?_⟩) (by assumption) ?_
       rotate_left
       ·(intro w hSw; (try dsimp only at hSw); go_simp; try with_reducible rfl)
       try simp only [Act.put, List.setIfInBounds_toArray, List.set_cons_zero, List.set_cons_succ]
       refine wpAnyH_take (i := 3) (oi := ⟨some 62, Op.load 9 (Operand.tmp 61), 9, _, _, none⟩) (v := ?_) rfl (by kernel_rfl) (by kernel_rfl) (by kernel_rfl) (fun _ _ _ h => h) (Or.inl ⟨by rfl, ?_⟩) (by assumption) ?_
       rotate_left
       ·(intro w hSw; (try dsimp only at hSw); go_simp; try with_reducible rfl)
       try simp only [Act.put, List.setIfInBounds_toArray, List.set_cons_zero, List.set_cons_succ]
       refine wpAnyH_ready (rs := [4]) (by kernel_rfl) (by simp) ?_
       refine AllReadyH.cons (i := 4) (o := ⟨some 63, Op.call { callee := Callee.value (Operand.func 86), args := #[Operand.tmp 62], argTypes := #[9] }, 4, _, _, none⟩) rfl (fun K hK => ?_) AllReadyH.nil
       go_simp
       (refine (l3Name_c _ sz _).mono ?_; rintro e w3 ⟨rfl, hb⟩; rw [hx])
       refine hK.out _ _ (by first | exact hHeld | exact H1.call hb (by assumption)) (fun hHeld => ?_)
       clear hK K
       try simp only [Act.put, List.setIfInBounds_toArray, List.set_cons_zero, List.set_cons_succ]
       refine wpAnyH_take (i := 5) (oi := ⟨some 64, Op.unOp UnOp.not 4 (Operand.tmp 63), 4, _, _, none⟩) (v := ?_) rfl (by kernel_rfl) (by kernel_rfl) (by kernel_rfl) (fun _ _ _ h => h) (Or.inl ⟨by rfl, ?_⟩) (by assumption) ?_
       rotate_left
       ·(intro w hSw; (try dsimp only at hSw); go_simp; try with_reducible rfl)
       try simp only [Act.put, List.setIfInBounds_toArray, List.set_cons_zero, List.set_cons_succ]
       refine wpAnyH_take (i := 6) (oi := ⟨some 65, Op.move (Operand.tmp 64), 4, _, _, none⟩) (v := ?_) rfl (by kernel_rfl) (by kernel_rfl) (by kernel_rfl) (fun _ _ _ h => h) (Or.inl ⟨by rfl, ?_⟩) (by assumption) ?_
       rotate_left
       ·(intro w hSw; (try dsimp only at hSw); go_simp; try with_reducible rfl)
       try simp only [Act.put, List.setIfInBounds_toArray, List.set_cons_zero, List.set_cons_succ]
       refine wpAnyH_take (i := 7) (oi := ⟨some 66, Op.move (Operand.tmp 3), 24, _, _, some (6, false)⟩) (v := ?_) rfl (by kernel_rfl) (by kernel_rfl) (by kernel_rfl) (fun _ _ _ h => h) (Or.inl ⟨by rfl, ?_⟩) (by assumption) ?_
       rotate_left
       ·(intro w hSw; (try dsimp only at hSw); go_simp; try with_reducible rfl)
       try simp only [Act.put, List.setIfInBounds_toArray, List.set_cons_zero, List.set_cons_succ]
       refine wpAnyH_take (i := 8) (oi := ⟨some 67, Op.move (Operand.tmp 5), 3, _, _, some (6, false)⟩) (v := ?_) rfl (by kernel_rfl) (by kernel_rfl) (by kernel_rfl) (fun _ _ _ h => h) (Or.inl ⟨by rfl, ?_⟩) (by assumption) ?_
       rotate_left
       ·(intro w hSw; (try dsimp only at hSw); go_simp; try with_reducible rfl)
       try simp only [Act.put, List.setIfInBounds_toArray, List.set_cons_zero, List.set_cons_succ]
       refine wpAnyH_take (i := 9) (oi := ⟨some 68, Op.slice 24 (Operand.tmp 66) none (some (Operand.tmp 67)) none, 24, _, _, some (6, false)⟩) (v := ?_) rfl (by kernel_rfl) (by kernel_rfl) (by kernel_rfl) (fun _ _ _ h => h) (Or.inl ⟨by rfl, ?_⟩) (by assumption) ?_
       rotate_left
       ·(intro w hSw; (try dsimp only at hSw); go_simp; try with_reducible rfl)
       try simp only [Act.put, List.setIfInBounds_toArray, List.set_cons_zero, List.set_cons_succ]
       refine wpAnyH_take (i := 10) (oi := ⟨some 69, Op.move (Operand.tmp 3), 24, _, _, some (6, false)⟩) (v := ?_) rfl (by kernel_rfl) (by kernel_rfl) (by kernel_rfl) (fun _ _ _ h => h) (Or.inl ⟨by rfl, ?_⟩) (by assumption) ?_
       rotate_left
       ·(intro w hSw; (try dsimp only at hSw); go_simp; try with_reducible rfl)
       try simp only [Act.put, List.setIfInBounds_toArray, List.set_cons_zero, List.set_cons_succ]
       refine wpAnyH_take (i := 11) (oi := ⟨some 70, Op.move (Operand.tmp 5), 3, _, _, some (6, false)⟩) (v := ?_) rfl (by kernel_rfl) (by kernel_rfl) (by kernel_rfl) (fun _ _ _ h => h) (Or.inl ⟨by rfl, ?_⟩) (by assumption) ?_
       rotate_left
       ·(intro w hSw; (try dsimp only at hSw); go_simp; try with_reducible rfl)
       try simp only [Act.put, List.setIfInBounds_toArray, List.set_cons_zero, List.set_cons_succ]
       refine wpAnyH_take (i := 12) (oi := ⟨some 71, Op.indexAddr 24 (Operand.tmp 69) (Operand.tmp 70), 0, _, _, some (6, false)⟩) (v := ?_) rfl (by kernel_rfl) (by kernel_rfl) (by kernel_rfl) (fun _ _ _ h => h) (Or.inl ⟨by rfl, ?_⟩) (by assumption) ?_
       rotate_left
       ·(intro w hSw; (try dsimp only at hSw); go_simp; try with_reducible rfl)
       try simp only [Act.put, List.setIfInBounds_toArray, List.set_cons_zero, List.set_cons_succ]
       refine wpAnyH_take (i := 13) (oi := ⟨some 72, Op.load 9 (Operand.tmp 71), 9, _, _, some (6, false)⟩) (v := ?_) rfl (by kernel_rfl) (by kernel_rfl) (by kernel_rfl) (fun _ _ _ h => h) (Or.inl ⟨by rfl, ?_⟩) (by assumption) ?_
       rotate_left
       ·(intro w hSw; (try dsimp only at hSw); go_simp; try with_reducible rfl)
       try simp only [Act.put, List.setIfInBounds_toArray, List.set_cons_zero, List.set_cons_succ]
       refine wpAnyH_ready (rs := [14]) (by kernel_rfl) (by simp) ?_
       refine AllReadyH.cons (i := 14) (o := ⟨some 73, Op.call { callee := Callee.value (Operand.func 87), args := #[Operand.tmp 68, Operand.tmp 72], argTypes := #[24, 9] }, 2, _, _, some (6, false)⟩) rfl (fun K hK => ?_) AllReadyH.nil
       go_simp
       (refine (l3Place_k _ _ _ (all.take k) _ _ ((unhide HS2).call hHeld.2) (unhide HLk)).mono ?_; rintro e w4 ⟨rfl, rfl⟩)
       refine hK.out _ _ (by first | exact hHeld | exact H1.call hb (by assumption)) (fun hHeld => ?_)
       clear hK K
       try simp only [Act.put, List.setIfInBounds_toArray, List.set_cons_zero, List.set_cons_succ]
       refine wpAnyH_take (i := 15) (oi := ⟨some 74, Op.binOp BinOp.geq 2 (Operand.tmp 73) (Operand.const (Value.int IntKind.i64 0)) 2, 4, _, _, some (6, false)⟩) (v := ?_) rfl (by kernel_rfl) (by kernel_rfl) (by kernel_rfl) (fun _ _ _ h => h) (Or.inl ⟨by rfl, ?_⟩) (by assumption) ?_
       rotate_left
       ·(intro w hSw; (try dsimp only at hSw); go_simp; try with_reducible rfl)
       try simp only [Act.put, List.setIfInBounds_toArray, List.set_cons_zero, List.set_cons_succ]
       refine wpAnyH_take (i := 16) (oi := ⟨some 75, Op.pick (Operand.tmp 65) (Operand.const (Value.bool true)) (Operand.tmp 74), 4, _, _, none⟩) (v := ?_) rfl (by kernel_rfl) (by kernel_rfl) (by kernel_rfl) (fun _ _ _ h => h) (Or.inl ⟨by rfl, ?_⟩) (by assumption) ?_
       rotate_left
       ·(intro w hSw; (try dsimp only at hSw); go_simp; try with_reducible rfl)
       try simp only [Act.put, List.setIfInBounds_toArray, List.set_cons_zero, List.set_cons_succ]
       refine wpAnyH_done (by kernel_rfl) ?_ _
       have HB3 := hide hHeld.2
       clear hHeld hb
       rw [show decide (0 ≤ plc x (List.take k all)) = false from decide_eq_false (by omega)]
       clear hst hh d HG HF1 HP HS2 ha hx hp
       go_wp2
       go_roundw
       case rel => exact ⟨k + 1, by omega, by go_num, unhide HG2, unhide HB3⟩
       case measure => simp [intOf]; omega
      ·have hp : 0 ≤ plc x (all.take k) := of_decide_eq_true ((unhide HP).trans ha)
       have HN2 := hide (unhide HF1 (.inr ha))
       go_wp2
       refine wp_region_held_drew (S := H1 wo ⟨cb, co + k, none⟩ (.string x)) (by kernel_rfl) (H1.drew hh) (fun hHeld => ?_)
       refine wpAnyH_take (i := 0) (oi := ⟨some 59, Op.move (Operand.tmp 3), 24, _, _, none⟩) (v := ?_) rfl (by kernel_rfl) (by kernel_rfl) (by kernel_rfl) (fun _ _ _ h => h) (Or.inl ⟨by rfl, ?_⟩) (by assumption) ?_
       rotate_left
       ·(intro w hSw; (try dsimp only at hSw); go_simp; try with_reducible rfl)
       try simp only [Act.put, List.setIfInBounds_toArray, List.set_cons_zero, List.set_cons_succ]
       refine wpAnyH_take (i := 1) (oi := ⟨some 60, Op.move (Operand.tmp 5), 3, _, _, none⟩) (v := ?_) rfl (by kernel_rfl) (by kernel_rfl) (by kernel_rfl) (fun _ _ _ h => h) (Or.inl ⟨by rfl, ?_⟩) (by assumption) ?_
       rotate_left
       ·(intro w hSw; (try dsimp only at hSw); go_simp; try with_reducible rfl)
       try simp only [Act.put, List.setIfInBounds_toArray, List.set_cons_zero, List.set_cons_succ]
       refine wpAnyH_take (i := 2) (oi := ⟨some 61, Op.indexAddr 24 (Operand.tmp 59) (Operand.tmp 60), 0, _, _, none⟩) (v := ?_) rfl (by kernel_rfl) (by kernel_rfl) (by kernel_rfl) (fun _ _ _ h => h) (Or.inl ⟨by rfl, ?_⟩) (by assumption) ?_
       rotate_left
       ·(intro w hSw; (try dsimp only at hSw); go_simp; try with_reducible rfl)
       try simp only [Act.put, List.setIfInBounds_toArray, List.set_cons_zero, List.set_cons_succ]
       refine wpAnyH_take (i := 3) (oi := ⟨some 62, Op.load 9 (Operand.tmp 61), 9, _, _, none⟩) (v := ?_) rfl (by kernel_rfl) (by kernel_rfl) (by kernel_rfl) (fun _ _ _ h => h) (Or.inl ⟨by rfl, ?_⟩) (by assumption) ?_
       rotate_left
       ·(intro w hSw; (try dsimp only at hSw); go_simp; try with_reducible rfl)
       try simp only [Act.put, List.setIfInBounds_toArray, List.set_cons_zero, List.set_cons_succ]
       refine wpAnyH_ready (rs := [4]) (by kernel_rfl) (by simp) ?_
       refine AllReadyH.cons (i := 4) (o := ⟨some 63, Op.call { callee := Callee.value (Operand.func 86), args := #[Operand.tmp 62], argTypes := #[9] }, 4, _, _, none⟩) rfl (fun K hK => ?_) AllReadyH.nil
       go_simp
       (refine (l3Name_c _ sz _).mono ?_; rintro e w3 ⟨rfl, hb⟩; rw [hx])
       refine hK.out _ _ (by first | exact hHeld | exact H1.call hb (by assumption)) (fun hHeld => ?_)
       clear hK K
       try simp only [Act.put, List.setIfInBounds_toArray, List.set_cons_zero, List.set_cons_succ]
       refine wpAnyH_take (i := 5) (oi := ⟨some 64, Op.unOp UnOp.not 4 (Operand.tmp 63), 4, _, _, none⟩) (v := ?_) rfl (by kernel_rfl) (by kernel_rfl) (by kernel_rfl) (fun _ _ _ h => h) (Or.inl ⟨by rfl, ?_⟩) (by assumption) ?_
       rotate_left
       ·(intro w hSw; (try dsimp only at hSw); go_simp; try with_reducible rfl)
       try simp only [Act.put, List.setIfInBounds_toArray, List.set_cons_zero, List.set_cons_succ]
       refine wpAnyH_take (i := 6) (oi := ⟨some 65, Op.move (Operand.tmp 64), 4, _, _, none⟩) (v := ?_) rfl (by kernel_rfl) (by kernel_rfl) (by kernel_rfl) (fun _ _ _ h => h) (Or.inl ⟨by rfl, ?_⟩) (by assumption) ?_
       rotate_left
       ·(intro w hSw; (try dsimp only at hSw); go_simp; try with_reducible rfl)
       try simp only [Act.put, List.setIfInBounds_toArray, List.set_cons_zero, List.set_cons_succ]
       refine wpAnyH_take (i := 7) (oi := ⟨some 66, Op.move (Operand.tmp 3), 24, _, _, some (6, false)⟩) (v := ?_) rfl (by kernel_rfl) (by kernel_rfl) (by kernel_rfl) (fun _ _ _ h => h) (Or.inl ⟨by rfl, ?_⟩) (by assumption) ?_
       rotate_left
       ·(intro w hSw; (try dsimp only at hSw); go_simp; try with_reducible rfl)
       try simp only [Act.put, List.setIfInBounds_toArray, List.set_cons_zero, List.set_cons_succ]
       refine wpAnyH_take (i := 8) (oi := ⟨some 67, Op.move (Operand.tmp 5), 3, _, _, some (6, false)⟩) (v := ?_) rfl (by kernel_rfl) (by kernel_rfl) (by kernel_rfl) (fun _ _ _ h => h) (Or.inl ⟨by rfl, ?_⟩) (by assumption) ?_
       rotate_left
       ·(intro w hSw; (try dsimp only at hSw); go_simp; try with_reducible rfl)
       try simp only [Act.put, List.setIfInBounds_toArray, List.set_cons_zero, List.set_cons_succ]
       refine wpAnyH_take (i := 9) (oi := ⟨some 68, Op.slice 24 (Operand.tmp 66) none (some (Operand.tmp 67)) none, 24, _, _, some (6, false)⟩) (v := ?_) rfl (by kernel_rfl) (by kernel_rfl) (by kernel_rfl) (fun _ _ _ h => h) (Or.inl ⟨by rfl, ?_⟩) (by assumption) ?_
       rotate_left
       ·(intro w hSw; (try dsimp only at hSw); go_simp; try with_reducible rfl)
       try simp only [Act.put, List.setIfInBounds_toArray, List.set_cons_zero, List.set_cons_succ]
       refine wpAnyH_take (i := 10) (oi := ⟨some 69, Op.move (Operand.tmp 3), 24, _, _, some (6, false)⟩) (v := ?_) rfl (by kernel_rfl) (by kernel_rfl) (by kernel_rfl) (fun _ _ _ h => h) (Or.inl ⟨by rfl, ?_⟩) (by assumption) ?_
       rotate_left
       ·(intro w hSw; (try dsimp only at hSw); go_simp; try with_reducible rfl)
       try simp only [Act.put, List.setIfInBounds_toArray, List.set_cons_zero, List.set_cons_succ]
       refine wpAnyH_take (i := 11) (oi := ⟨some 70, Op.move (Operand.tmp 5), 3, _, _, some (6, false)⟩) (v := ?_) rfl (by kernel_rfl) (by kernel_rfl) (by kernel_rfl) (fun _ _ _ h => h) (Or.inl ⟨by rfl, ?_⟩) (by assumption) ?_
       rotate_left
       ·(intro w hSw; (try dsimp only at hSw); go_simp; try with_reducible rfl)
       try simp only [Act.put, List.setIfInBounds_toArray, List.set_cons_zero, List.set_cons_succ]
       refine wpAnyH_take (i := 12) (oi := ⟨some 71, Op.indexAddr 24 (Operand.tmp 69) (Operand.tmp 70), 0, _, _, some (6, false)⟩) (v := ?_) rfl (by kernel_rfl) (by kernel_rfl) (by kernel_rfl) (fun _ _ _ h => h) (Or.inl ⟨by rfl, ?_⟩) (by assumption) ?_
       rotate_left
       ·(intro w hSw; (try dsimp only at hSw); go_simp; try with_reducible rfl)
       try simp only [Act.put, List.setIfInBounds_toArray, List.set_cons_zero, List.set_cons_succ]
       refine wpAnyH_take (i := 13) (oi := ⟨some 72, Op.load 9 (Operand.tmp 71), 9, _, _, some (6, false)⟩) (v := ?_) rfl (by kernel_rfl) (by kernel_rfl) (by kernel_rfl) (fun _ _ _ h => h) (Or.inl ⟨by rfl, ?_⟩) (by assumption) ?_
       rotate_left
       ·(intro w hSw; (try dsimp only at hSw); go_simp; try with_reducible rfl)
       try simp only [Act.put, List.setIfInBounds_toArray, List.set_cons_zero, List.set_cons_succ]
       refine wpAnyH_ready (rs := [14]) (by kernel_rfl) (by simp) ?_
       refine AllReadyH.cons (i := 14) (o := ⟨some 73, Op.call { callee := Callee.value (Operand.func 87), args := #[Operand.tmp 68, Operand.tmp 72], argTypes := #[24, 9] }, 2, _, _, some (6, false)⟩) rfl (fun K hK => ?_) AllReadyH.nil
       go_simp
       (refine (l3Place_k _ _ _ (all.take k) _ _ ((unhide HS2).call hHeld.2) (unhide HLk)).mono ?_; rintro e w4 ⟨rfl, rfl⟩)
       refine hK.out _ _ (by first | exact hHeld | exact H1.call hb (by assumption)) (fun hHeld => ?_)
       clear hK K
       try simp only [Act.put, List.setIfInBounds_toArray, List.set_cons_zero, List.set_cons_succ]
       refine wpAnyH_take (i := 15) (oi := ⟨some 74, Op.binOp BinOp.geq 2 (Operand.tmp 73) (Operand.const (Value.int IntKind.i64 0)) 2, 4, _, _, some (6, false)⟩) (v := ?_) rfl (by kernel_rfl) (by kernel_rfl) (by kernel_rfl) (fun _ _ _ h => h) (Or.inl ⟨by rfl, ?_⟩) (by assumption) ?_
       rotate_left
       ·(intro w hSw; (try dsimp only at hSw); go_simp; try with_reducible rfl)
       try simp only [Act.put, List.setIfInBounds_toArray, List.set_cons_zero, List.set_cons_succ]
       refine wpAnyH_take (i := 16) (oi := ⟨some 75, Op.pick (Operand.tmp 65) (Operand.const (Value.bool true)) (Operand.tmp 74), 4, _, _, none⟩) (v := ?_) rfl (by kernel_rfl) (by kernel_rfl) (by kernel_rfl) (fun _ _ _ h => h) (Or.inl ⟨by rfl, ?_⟩) (by assumption) ?_
       rotate_left
       ·(intro w hSw; (try dsimp only at hSw); go_simp; try with_reducible rfl)
       try simp only [Act.put, List.setIfInBounds_toArray, List.set_cons_zero, List.set_cons_succ]
       refine wpAnyH_done (by kernel_rfl) ?_ _
       have HB3 := hide ((unhide HB).trans (hHeld.2.mono (unhide HB).size))
       clear hHeld hb
       go_wp2
       go_ret
       exact ⟨by rw [unhide HN2]; rfl, unhide HB3⟩
    ·have HE := hide (unhide HQ (fun j hj => unhide HA j hj (by have := unhide HN; omega)))
     have HB3 := hide ((unhide HB).trans (hb.mono (unhide HB).size))
     clear hb hall
     go_wp2
     go_ret
     exact ⟨by rw [unhide HE]; rfl, unhide HB3⟩
end Go.Proofs.YtpdnnpnclgcpoaaDoor

