/- A token's text: the program's. -/
import Derived.Test.YtppchebikafmeaaDoorTxtD
import Derived.Maps.AppendAt
import Derived.Deep.AppendLies
import Derived.OwnWalk
import Derived.Deep.DeepCutAuto
import Derived.WalkSpells
namespace Go.Proofs.YtppchebikafmeaaDoor
open Go.RowKit
set_option linter.unusedSimpArgs false
set_option linter.unusedVariables false

theorem app_form {w : World} {base : Nat} {e : TypeId} {size : Nat} {v : Value} {n : Nat} {xs : List Value} (h : w.ownsRow base e size v n xs) : ∃ oa cap, v = .slice oa n cap := by
  rcases h.2 with ⟨h0, h1⟩ | ⟨g, cap, cur, hv, _⟩
  · exact ⟨none, 0, by rw [h0, h1]⟩
  · exact ⟨_, cap, hv⟩
section
variable {P : Program} (w : World)
/-- At the operation. -/
theorem wp_app {o : Oper} {a : Act} {K : Act → World → Prop} {Q : Exit → Act → World → Prop} (s x : Operand) (t : TypeId)
    (ho : o.op = .call { callee := .builtin .append, args := #[s, x], argTypes := #[t, t] })
    (base : Nat) (e : TypeId) (i : TypeInfo) (z : Value) (size bytes : Nat) (ht : P.underlying t = some (.slice e)) (hi : P.info? e = some i) (hz : i.zero = some z)
    (hsize : i.size = size) (hby : i.bytes = bytes) (hzs : z.cells.size = size) (hsz : 0 < size)
    (v : Value) (n : Nat) (xs : List Value) (hs : a.eval s = v) (hown : w.ownsRow base e size v n xs)
    (ad : Addr) (m c : Nat) (news : List Value) (hx : a.eval x = .slice (some ad) m c) (hl : news.length = m * size) (hnews : ∀ j u, news[j]? = some u → w.cell? (ad.add j) = some u) (h1 : ∀ u ∈ news, u.oneCell' = true)
    (h63 : n + m ≤ maxLen) (hbytes : (n + m) * bytes ≤ 140737488355328) (hbase : base ≤ w.heap.size)
    (h : ∀ oa cap w', w'.ownsRow base e size (.slice oa (n + m) cap) (n + m) (xs ++ news) → w.grownBy w' v.ownBlock → K (a.put o.dst (.slice oa (n + m) cap)) w') : o.wp P a w K Q := by
  obtain ⟨v', w', hr, h2, h3, _, _⟩ := run_append_own_at (P := P) w base t o.type e i z size bytes ht hi hz hsize hby hzs hsz v n xs hown ad m c news hl hnews h1 h63 hbytes hbase
  obtain ⟨oa, cap, rfl⟩ := app_form h2
  unfold Oper.wp execOp
  simp only [ho, resolve, invoke, builtin, Sem.run_bind, Sem.run_pure, Result.andThen_ok, List.map_toArray, List.map_cons, List.map_nil, hs, hx, hr]
  exact h oa cap w' h2 h3
theorem wpList_app {ops : Array Oper} {rest : List Oper} {o : Oper} {a : Act} {Q : Exit → Act → World → Prop} (hgd : o.guard = none) (s x : Operand) (t : TypeId)
    (ho : o.op = .call { callee := .builtin .append, args := #[s, x], argTypes := #[t, t] })
    (base : Nat) (e : TypeId) (i : TypeInfo) (z : Value) (size bytes : Nat) (ht : P.underlying t = some (.slice e)) (hi : P.info? e = some i) (hz : i.zero = some z)
    (hsize : i.size = size) (hby : i.bytes = bytes) (hzs : z.cells.size = size) (hsz : 0 < size)
    (v : Value) (n : Nat) (xs : List Value) (hs : a.eval s = v) (hown : w.ownsRow base e size v n xs)
    (ad : Addr) (m c : Nat) (news : List Value) (hx : a.eval x = .slice (some ad) m c) (hl : news.length = m * size) (hnews : ∀ j u, news[j]? = some u → w.cell? (ad.add j) = some u) (h1 : ∀ u ∈ news, u.oneCell' = true)
    (h63 : n + m ≤ maxLen) (hbytes : (n + m) * bytes ≤ 140737488355328) (hbase : base ≤ w.heap.size)
    (h : ∀ oa cap w', w'.ownsRow base e size (.slice oa (n + m) cap) (n + m) (xs ++ news) → w.grownBy w' v.ownBlock → wpList P ops Q rest (a.put o.dst (.slice oa (n + m) cap)) w') : wpList P ops Q (o :: rest) a w :=
  wpList_plain hgd fun _ hK => wp_app w s x t ho base e i z size bytes ht hi hz hsize hby hzs hsz v n xs hs hown ad m c news hx hl hnews h1 h63 hbytes hbase fun oa cap w' h2 h3 => hK _ _ (h oa cap w' h2 h3)
theorem step_app {ops : Array Oper} {o : Oper} {a : Act} {K : Act → World → Prop} {Q : Exit → Act → World → Prop} {E : Prop} (hgd : o.guard = none) (s x : Operand) (t : TypeId)
    (ho : o.op = .call { callee := .builtin .append, args := #[s, x], argTypes := #[t, t] })
    (base : Nat) (e : TypeId) (i : TypeInfo) (z : Value) (size bytes : Nat) (ht : P.underlying t = some (.slice e)) (hi : P.info? e = some i) (hz : i.zero = some z)
    (hsize : i.size = size) (hby : i.bytes = bytes) (hzs : z.cells.size = size) (hsz : 0 < size)
    (v : Value) (n : Nat) (xs : List Value) (hs : a.eval s = v) (hown : w.ownsRow base e size v n xs)
    (ad : Addr) (m c : Nat) (news : List Value) (hx : a.eval x = .slice (some ad) m c) (hl : news.length = m * size) (hnews : ∀ j u, news[j]? = some u → w.cell? (ad.add j) = some u) (h1 : ∀ u ∈ news, u.oneCell' = true)
    (h63 : n + m ≤ maxLen) (hbytes : (n + m) * bytes ≤ 140737488355328) (hbase : base ≤ w.heap.size)
    (h : ∀ oa cap w', w'.ownsRow base e size (.slice oa (n + m) cap) (n + m) (xs ++ news) → w.grownBy w' v.ownBlock → K (a.put o.dst (.slice oa (n + m) cap)) w') :
    if Region.wanted o (yielded ops a.tmps) = true then Oper.wp P o a w K Q else E := by
  have hw : Region.wanted o (yielded ops a.tmps) = true := by simp [Region.wanted, hgd]
  rw [if_pos hw]
  exact wp_app w s x t ho base e i z size bytes ht hi hz hsize hby hzs hsz v n xs hs hown ad m c news hx hl hnews h1 h63 hbytes hbase h
end
theorem own_call {w w' : World} {B : Nat} {e : TypeId} {k : Nat} {v : Value} {n : Nat} {xs : List Value} (h : w.ownsRow B e k v n xs) (hb : Below w.heap.size w w') : w'.ownsRow B e k v n xs := by
  refine ⟨h.1, ?_⟩
  rcases h.2 with h0 | ⟨g, cap, cur, hv, hB, hg, r⟩
  · exact .inl h0
  · refine .inr ⟨g, cap, cur, hv, hB, (hb.block g ?_).trans hg, r⟩
    have := (h.lt g (by rw [hv]; rfl)).2
    exact this
/-- Two cells stay. -/
@[reducible] def SZ (w0 : World) (a b : Addr) (x y : Value) (u : World) : Prop := u.cell? a = some x ∧ u.cell? b = some y ∧ Hid (w0.heap.size ≤ u.heap.size)
theorem SZ.of {w0 : World} {a b : Addr} {x y : Value} (h : w0.cell? a = some x) (h2 : w0.cell? b = some y) : SZ w0 a b x y w0 := ⟨h, h2, hide (Nat.le_refl _)⟩
theorem SZ.sz {w0 u : World} {a b : Addr} {x y : Value} (h : SZ w0 a b x y u) : w0.heap.size ≤ u.heap.size := unhide h.2.2
theorem SZ.call {w0 u v : World} {a b : Addr} {x y : Value} (h : SZ w0 a b x y u) (hb : Below u.heap.size u v) : SZ w0 a b x y v :=
  ⟨(hb.cell (World.block_lt_of_cell? _ _ h.1)).trans h.1, (hb.cell (World.block_lt_of_cell? _ _ h.2.1)).trans h.2.1, hide (Nat.le_trans h.sz hb.size)⟩
theorem SZ.drew {w0 u : World} {a b : Addr} {x y : Value} (h : SZ w0 a b x y u) : SZ w0 a b x y u.drew := h.call (Below.refl _ _).drew
theorem SZ.grown {w0 u v : World} {a b : Nat} {oa ob : Nat} {x y : Value} {row : Option Nat} (h : SZ w0 ⟨a, oa, none⟩ ⟨b, ob, none⟩ x y u) (hg : u.grownBy v row) (h1 : ∀ j, row = some j → j ≠ a ∧ j ≠ b) : SZ w0 ⟨a, oa, none⟩ ⟨b, ob, none⟩ x y v :=
  ⟨(World.cell?_of_block (w := u) (hg.block a (World.block_lt_of_cell? _ _ h.1) (fun e => (h1 a e.symm).1 rfl))).trans h.1, (World.cell?_of_block (w := u) (hg.block b (World.block_lt_of_cell? _ _ h.2.1) (fun e => (h1 b e.symm).2 rfl))).trans h.2.1, hide (Nat.le_trans h.sz hg.size)⟩
theorem SZ.set {w0 u : World} {a b c o oa ob : Nat} {x y v : Value} (h : SZ w0 ⟨a, oa, none⟩ ⟨b, ob, none⟩ x y u) (h1 : c ≠ a) (h2 : c ≠ b) : SZ w0 ⟨a, oa, none⟩ ⟨b, ob, none⟩ x y (u.setCell ⟨c, o, none⟩ v) :=
  ⟨(World.cell?_setCell_other _ _ _ _ (fun e => h1 (congrArg Addr.block e))).trans h.1, (World.cell?_setCell_other _ _ _ _ (fun e => h2 (congrArg Addr.block e))).trans h.2.1, hide (by have := h.sz; simpa [World.setCell] using this)⟩
theorem SZ.alloc {w0 u : World} {a b : Addr} {x y : Value} (h : SZ w0 a b x y u) (o : Obj) : SZ w0 a b x y (u.alloc o) := h.call ((Below.refl _ _).alloc (Nat.le_refl _) o)
theorem strInfo : (Tryd.prog.info? 9).map (fun i => (i.zero, i.size, i.bytes)) = some (some (.string ⟨#[]⟩), 1, 16) := by kernel_rfl
def wordsC (zs : List (Int × Int)) : List Value := zs.map fun p => .string (entT p)
theorem wordsC_take (zs : List (Int × Int)) (k : Nat) (h : k < zs.length) : wordsC (zs.take k) ++ [.string (entT zs[k])] = wordsC (zs.take (k + 1)) := by
  rw [List.take_succ_eq_append_getElem h]
  unfold wordsC
  rw [List.map_append]
  rfl
/-- Joined words are the text. -/
theorem join_txt (zs : List (Int × Int)) (h0 : 0 < zs.length) (h3 : zs.length ≤ 3) : (⟨(Lib.join ((zs.map entT).map (·.data.toList)) (⟨#[32]⟩ : ByteArray).data.toList).toArray⟩ : ByteArray) = txt zs := by
  match zs, h0, h3 with
  | [a], _, _ =>
    simp [Lib.join, List.intercalate, txt]
  | [a, b], _, _ =>
    apply ByteArray.ext
    simp [Lib.join, List.intercalate, txt]
  | [a, b, c], _, _ =>
    apply ByteArray.ext
    simp [Lib.join, List.intercalate, txt]
theorem own_some {w : World} {B : Nat} {e : TypeId} {oc : Option Addr} {k cc : Nat} {xs : List Value} (h : w.ownsRow B e 1 (.slice oc k cc) k xs) (h0 : 0 < k) : ∃ g, oc = some ⟨g, 0, none⟩ ∧ g < w.heap.size ∧ k ≤ cc := by
  have l := h
  rcases h.2 with ⟨_, h1⟩ | ⟨g, cap, cur, hq, hB, hg, r⟩
  · omega
  · cases hq
    exact ⟨g, rfl, (l.lt g rfl).2, by first | exact r.1 | exact r.2.1 | omega⟩
set_option maxRecDepth 20000 in
set_option maxHeartbeats 8000000 in
theorem iTokenText_c (a : Option Addr) (cap : Nat) (zs : List (Int × Int)) (w : World) (h : Ivs w a zs) : Calls Tryd.prog 8 #[.slice a zs.length cap] w fun e w' => e = .returned (.string (if tokB zs = true then txt zs else ⟨#[]⟩)) ∧ Below w.heap.size w w' := by
  have HI := hide h
  obtain ⟨V, hV⟩ : ∃ V, V = (if tokB zs = true then txt zs else ⟨#[]⟩) := ⟨_, rfl⟩
  rw [← hV]
  have HV := hide hV
  clear h hV
  obtain ⟨inf, hi, hz0, hz1, hz2⟩ := info_parts strInfo
  go_enter Tryd.func8, Tryd.ntmps8
  go_wp2_with fail
  refine (TokenOk_c a cap zs _ (unhide HI)).mono ?_
  rintro e w1 ⟨rfl, kb⟩
  have HK := hide kb
  have HI := hide ((unhide HI).call kb)
  clear kb
  cases h1 : tokB zs
  · have HN := hide (show V = ⟨#[]⟩ by rw [unhide HV, h1]; rfl)
    clear h1 HV
    go_wp2
    go_ret
    exact ⟨by rw [unhide HN]; rfl, unhide HK⟩
  have H1 := hide h1
  have HN := hide (show V = txt zs by rw [unhide HV, h1]; rfl)
  have HL := hide (show zs.length ≤ 3 by unfold tokB at h1; rw [Bool.and_eq_true] at h1; exact of_decide_eq_true h1.1)
  have hl : (zs.length : Int) ≤ 3 := by have := unhide HL; omega
  clear h1 HV
  by_cases h0 : zs.length = 0
  · have HZ := hide (show V = ⟨#[45]⟩ by rw [unhide HN, List.eq_nil_of_length_eq_zero h0]; rfl)
    have h0' : (zs.length : Int) = 0 := by omega
    go_wp2
    go_ret
    exact ⟨by rw [unhide HZ]; rfl, unhide HK⟩
  have h0' : ¬ ((zs.length : Int) = 0) := by omega
  have HP := hide (show 0 < zs.length by omega)
  clear h0
  go_wp2
  clear h0'
  generalize ((zs.length : Int) == 0) = bz
  go_loopw [3, 14] (fun ws i wr => ∃ (k : Nat) (oc : Option Addr) (cc : Nat), k ≤ zs.length ∧ i = .int .i64 k ∧ ws = .slice oc k cc ∧ wr.ownsRow w1.heap.size 9 1 (.slice oc k cc) k (wordsC (zs.take k)) ∧ Below w1.heap.size w1 wr) (fun _ i _ => zs.length - (intOf i).toNat)
  case atStart => exact ⟨0, none, 0, Nat.zero_le _, rfl, rfl, World.ownsRow_nil _ _ _ _, Below.refl _ _⟩
  case round =>
    obtain ⟨k, oc, cc, hk, rfl, rfl, ho, hb⟩ := hrel
    have HB := hide hb
    have HO := hide ho
    by_cases hlt : k < zs.length
    · obtain ⟨x, y, hxy, hx, hy⟩ := tok_nums (unhide H1) k hlt
      rcases (unhide HI).2 with h9 | ⟨cb, co, rfl, hc⟩
      · omega
      have c0 := (hb.cell (World.block_lt_of_cell? _ _ (hc k hlt).1)).trans (hc k hlt).1
      have c1 := (hb.cell (World.block_lt_of_cell? _ _ (hc k hlt).2)).trans (hc k hlt).2
      rw [hxy] at c0 c1
      have HT := hide (wordsC_take zs k hlt)
      rw [hxy, show entT ((x : Int), (y : Int)) = decB x ++ (⟨#[58]⟩ : ByteArray) ++ decB y from rfl] at HT
      have s1 := decB_size x hx
      have s2 := decB_size y hy
      have k1 : ∀ w, Calls Tryd.prog 22 #[.int .i64 (x : Int)] w fun e w' => e = .returned (.string (decB x)) ∧ w' = w := fun w => decimal_c x hx w
      have k2 : ∀ w, Calls Tryd.prog 22 #[.int .i64 (y : Int)] w fun e w' => e = .returned (.string (decB y)) ∧ w' = w := fun w => decimal_c y hy w
      generalize decB x = X at s1 HT k1
      generalize decB y = Y at s2 HT k2
      have K1 := hide k1
      have K2 := hide k2
      have n1 : ¬ (9223372036854775807 < X.size + 1) := by omega
      have n2 : ¬ (9223372036854775807 < X.size + 1 + Y.size) := by omega
      have ka := (Below.refl _ wr).alloc (Nat.le_refl _) (Obj.cells #[.int .i64 (x : Int), .int .i64 (y : Int)] 40)
      have d0 : (wr.alloc (Obj.cells #[.int .i64 (x : Int), .int .i64 (y : Int)] 40)).cell? ⟨wr.heap.size, 0, none⟩ = some (.int .i64 (x : Int)) := by simp [go_sem]
      have d1 : (wr.alloc (Obj.cells #[.int .i64 (x : Int), .int .i64 (y : Int)] 40)).cell? ⟨wr.heap.size, 1, none⟩ = some (.int .i64 (y : Int)) := by simp [go_sem]
      have HB2 := hide ((unhide HB).trans (ka.mono (unhide HB).size))
      have HO2 := hide (own_call (unhide HO) ka)
      have HKB : Hid (∀ j, (Value.slice oc k cc).ownBlock = some j → j ≠ wr.heap.size ∧ j ≠ wr.heap.size) := fun j hj => by have := (ho.lt j hj).2; omega
      have hw1 : w1.heap.size ≤ (wr.alloc (Obj.cells #[.int .i64 (x : Int), .int .i64 (y : Int)] 40)).heap.size := (unhide HB2).size
      obtain ⟨ab, hab⟩ : ∃ x, x = wr.heap.size := ⟨_, rfl⟩
      obtain ⟨wq, hwq⟩ : ∃ z, z = wr.alloc (Obj.cells #[.int .i64 (x : Int), .int .i64 (y : Int)] 40) := ⟨_, rfl⟩
      rw [← hab, ← hwq] at d0 d1
      rw [← hwq] at HB2 HO2 hw1
      rw [← hab] at HKB
      have HQ := hide (And.intro hab hwq)
      have hlt' : (k : Int) < (zs.length : Int) := by omega
      clear hc hxy hb ho k1 k2 hx hy ka hab hwq HB HO
      go_upto_region 9 with fail
      rw [← (unhide HQ).1, ← (unhide HQ).2]
      clear HQ c0 c1
      have hh := SZ.of d0 d1
      have kd : Below wq.heap.size wq wq.drew := (Below.refl _ _).drew
      clear d0 d1
      go_region_held3 (SZ wq ⟨ab, 0, none⟩ ⟨ab, 1, none⟩ (.int .i64 (x : Int)) (.int .i64 (y : Int)))
        (first | exact hs4 | exact SZ.drew (by assumption) | exact SZ.alloc (by assumption) _ | assumption)
        (first
          | (go_at_call 22; have hd0 := hdone; refine ((unhide K2) _).mono ?_; rintro e u2 ⟨rfl, rfl⟩)
          | (go_at_call 22; refine ((unhide K1) _).mono ?_; rintro e u1 ⟨rfl, rfl⟩; have hdone := True.intro)
          | (refine step_app _ (by rfl) _ _ _ (by rfl) w1.heap.size 9 inf (.string ⟨#[]⟩) 1 16 Tryd.underlying38 hi hz0 hz1 hz2 rfl (by decide) _ _ _ (by rfl) ((own_call (unhide HO2) kd).alloc _) ⟨_, 0, none⟩ 1 1 [.string (X ++ (⟨#[58]⟩ : ByteArray) ++ Y)] (by rfl) rfl (World.news_of_block (heap_alloc_new _ _)) (by intro u hu; simp at hu; subst hu; rfl) (by unfold maxLen; have := unhide HL; omega) (by have := unhide HL; omega) (by have := kd.size; simp; omega) ?_; intro oc' cc' w5 hown hgrow; have hs4 := SZ.grown (SZ.alloc (SZ.drew hh) _) hgrow (unhide HKB)))
      rename_i hHeld
      have ha := (unhide HB2).drew.alloc (unhide HB2).drew.size (Obj.cells #[.string (X ++ (⟨#[58]⟩ : ByteArray) ++ Y)] 9)
      have HD5 := hide (ha.grown hgrow ha.size (fun j hj => ((unhide HO2).lt j hj).1))
      have HO5 := hide hown
      rw [unhide HT] at HO5
      clear hHeld hh hs4 hown hgrow ha kd K1 K2 HO2 HB2
      go_wp2
      go_roundw
      case rel => exact ⟨k + 1, oc', cc', by omega, by go_num, rfl, unhide HO5, unhide HD5⟩
      case measure => simp [intOf]; omega
    · have ek : k = zs.length := by omega
      subst ek
      have hlt' : ¬ ((zs.length : Int) < (zs.length : Int)) := by omega
      rw [List.take_of_length_le (Nat.le_refl _)] at ho
      obtain ⟨bk, rfl, hbk, hcap⟩ := own_some ho (unhide HP)
      have HC := hide (show ∀ (j : Nat) x, (zs.map entT)[j]? = some x → wr.cell? ⟨bk, 0 + j, none⟩ = some (.string x) from fun j x hj => by
        have hlj : j < zs.length := by
          rcases Nat.lt_or_ge j zs.length with q | q
          · exact q
          · rw [List.getElem?_eq_none (by simpa using q)] at hj; cases hj
        rw [Nat.zero_add, ho.cellAt j (by omega)]
        unfold wordsC
        rw [List.getElem?_map] at hj ⊢
        cases hz : zs[j]? with
        | none => rw [hz] at hj; cases hj
        | some p =>
          rw [hz] at hj
          simp at hj
          simp [hj])
      have HJ := hide (join_txt zs (unhide HP) (unhide HL))
      have HJL := hide (show (Lib.join ((zs.map entT).map (·.data.toList)) (⟨#[32]⟩ : ByteArray).data.toList).length ≤ 140737488355328 by
        have q := txt_size (unhide H1) zs.length (Nat.le_refl _)
        rw [List.take_of_length_le (Nat.le_refl _), ← unhide HJ] at q
        have := unhide HL
        have q2 : (Lib.join ((zs.map entT).map (·.data.toList)) (⟨#[32]⟩ : ByteArray).data.toList).toArray.size ≤ 6 * zs.length + 1 := q
        rw [List.size_toArray] at q2
        omega)
      clear ho hb
      go_wp2_with fail
      have hjn := Tryd.strings_Join bk 0 cc (zs.map entT) (⟨#[32]⟩ : ByteArray) wr (unhide HC) hbk (by have := unhide HL; simp; omega) (by simpa using hcap) (unhide HJL)
      rw [List.length_map, unhide HJ] at hjn
      refine hjn.mono ?_
      rintro e w2 ⟨rfl, kb⟩
      have HF := hide ((unhide HK).trans (((unhide HB).trans (kb.mono (unhide HB).size)).mono (unhide HK).size))
      clear kb hjn
      have HVT := hide (unhide HN)
      generalize txt zs = tz at HVT ⊢
      go_wp2
      go_ret
      exact ⟨by rw [unhide HVT]; rfl, unhide HF⟩
end Go.Proofs.YtppchebikafmeaaDoor
