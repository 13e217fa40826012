/- Reading a token: the specification's. -/
import Derived.Test.YtppchebikafmeaaDoorRdU
namespace Go.Proofs.YtppchebikafmeaaDoor
open Go.RowKit
set_option linter.unusedSimpArgs false
set_option linter.unusedVariables false

def cellsW (l : List (Int × Int)) : List Value := l.flatMap fun p => [.int .i64 p.1, .int .i64 p.2]
theorem cellsW_app (l m : List (Int × Int)) : cellsW (l ++ m) = cellsW l ++ cellsW m := by simp [cellsW]
theorem cellsW_at (l : List (Int × Int)) : ∀ i, (h : i < l.length) → (cellsW l)[i * 2]? = some (.int .i64 l[i].1) ∧ (cellsW l)[i * 2 + 1]? = some (.int .i64 l[i].2) := by
  induction l with
  | nil => intro i h; simp at h
  | cons p l ih =>
    intro i h
    have e : cellsW (p :: l) = [.int .i64 p.1, .int .i64 p.2] ++ cellsW l := rfl
    cases i with
    | zero => exact ⟨rfl, rfl⟩
    | succ i =>
      have k := ih i (by simpa using h)
      have e1 : (i + 1) * 2 = i * 2 + 2 := by omega
      rw [e, e1]
      exact ⟨k.1, k.2⟩
/-- A row of entries of the call's own. -/
def RowN (w : World) (B : Nat) (oc : Option Addr) (cc : Nat) (es : List (Int × Int)) : Prop := w.ownsRow B 40 2 (.slice oc es.length cc) es.length (cellsW es)
theorem own_some2 {w : World} {B : Nat} {e : TypeId} {oc : Option Addr} {k cc : Nat} {xs : List Value} (h : w.ownsRow B e 2 (.slice oc k cc) k xs) (h0 : 0 < k) : ∃ g, oc = some ⟨g, 0, none⟩ ∧ g < w.heap.size := by
  have l := h
  rcases h.2 with ⟨_, h1⟩ | ⟨g, cap, cur, hq, hB, hg, r⟩
  · omega
  · cases hq
    exact ⟨g, rfl, (l.lt g rfl).2⟩
theorem RowN.ivs {w : World} {B : Nat} {oc : Option Addr} {cc : Nat} {es : List (Int × Int)} (h : RowN w B oc cc es) (hl : es.length ≤ 1048576) : Ivs w oc es := by
  refine ⟨hl, ?_⟩
  by_cases h0 : es.length = 0
  · exact .inl h0
  · obtain ⟨g, rfl, hg⟩ := own_some2 h (by omega)
    refine .inr ⟨g, 0, rfl, fun i hi => ?_⟩
    have c := cellsW_at es i hi
    have q1 := World.ownsRow.cellAt h (i * 2) (by omega)
    have q2 := World.ownsRow.cellAt h (i * 2 + 1) (by omega)
    rw [c.1] at q1
    rw [c.2] at q2
    exact ⟨by simpa using q1, by simpa using q2⟩
theorem RT_size {s : ByteArray} {t : List (Int × Int)} {b : Bool} (h : RT s t b) (hb : b = true) : s.size ≤ 19 := by
  rcases h with ⟨_, h1, h2⟩ | ⟨h1, _⟩
  · have h3 : t.length ≤ 3 := by unfold tokB at h1; rw [Bool.and_eq_true] at h1; exact of_decide_eq_true h1.1
    have q := txt_size h1 t.length (Nat.le_refl _)
    rw [List.take_of_length_le (Nat.le_refl _)] at q
    rw [h2]
    omega
  · rw [h1] at hb; cases hb
theorem entInfo2 : (Tryd.prog.info? 40).map (fun i => (i.zero, i.size, i.bytes)) = some (some (.agg #[.int .i64 0, .int .i64 0]), 2, 16) := by kernel_rfl
theorem pieces_size (d : UInt8) : ∀ l : List UInt8, ∀ p ∈ pieces d l, p.length ≤ l.length
  | [] => by simp [pieces]
  | c :: r => by
    have h := pieces_size d r
    intro p hp
    have e : pieces d (c :: r) = if c = d then [] :: pieces d r else (match pieces d r with
      | [] => [[c]]
      | h :: t => (c :: h) :: t) := rfl
    rw [e] at hp
    by_cases q : c = d
    · rw [if_pos q, List.mem_cons] at hp
      rcases hp with rfl | hp
      · simp
      · have := h p hp
        rw [List.length_cons]
        omega
    · rw [if_neg q] at hp
      cases k : pieces d r with
      | nil =>
        rw [k] at hp
        simp at hp
        subst hp
        simp
      | cons a b =>
        rw [k] at hp h
        rcases List.mem_cons.1 hp with rfl | hp
        · have := h a (List.mem_cons_self)
          simp
          exact this
        · have := h p (List.mem_cons_of_mem _ hp)
          rw [List.length_cons]
          omega
theorem pieces_pos (d : UInt8) : ∀ l : List UInt8, 0 < (pieces d l).length
  | [] => by simp [pieces]
  | c :: r => by
    show 0 < (if c = d then [] :: pieces d r else _).length
    by_cases e : c = d
    · rw [if_pos e]; simp
    · rw [if_neg e]
      cases pieces d r <;> simp
theorem piecesB_pos (s : ByteArray) : 0 < (piecesB s).length := by
  unfold piecesB
  rw [List.length_map]
  exact pieces_pos 32 _
theorem piecesB_size (s : ByteArray) (k : Nat) (hk : k < (piecesB s).length) : (piecesB s)[k].size ≤ s.size := by
  have hz : s.data.toList.length = s.size := Array.length_toList
  unfold piecesB at hk ⊢
  rw [List.length_map] at hk
  rw [List.getElem_map]
  have q := pieces_size 32 s.data.toList _ (List.getElem_mem hk)
  show (pieces 32 s.data.toList)[k].toArray.size ≤ _
  rw [List.size_toArray]
  omega
/-- The dash is the token without entries. -/
theorem RT_dash {t : List (Int × Int)} {b : Bool} (h : RT ⟨#[45]⟩ t b) : b = true ∧ t = [] := by
  rcases h with ⟨h1, h2, h3⟩ | ⟨_, _, h3⟩
  · refine ⟨h1, ?_⟩
    by_cases q : 0 < t.length
    · exact absurd h3.symm (txt_pieces h2 q).2.1
    · exact List.eq_nil_of_length_eq_zero (by omega)
  · rcases h3 with h3 | h3
    · cases h3
    · exact absurd rfl (h3 [])
/-- What was read is the token, or there is none. -/
theorem RT_read {s : ByteArray} {t E : List (Int × Int)} {b : Bool} {ws : List ByteArray} (h : RT s t b) (hne : ¬ s = ⟨#[]⟩) (hd : ¬ s = ⟨#[45]⟩) (hw : tokB t = true → 0 < t.length → s = txt t → ws = t.map entT) (hl : E.length = ws.length) (hr : ReadP ws E) : (tokT E = s → b = true ∧ E = t) ∧ (¬ tokT E = s → b = false ∧ t = []) := by
  rcases h with ⟨h1, h2, h3⟩ | ⟨h1, h2, h3⟩
  · have h0 : 0 < t.length := by
      by_cases q : 0 < t.length
      · exact q
      · have : t = [] := List.eq_nil_of_length_eq_zero (by omega)
        subst this
        exact absurd h3 hd
    have e := readP_token h2 (hw h2 h0 h3) hl hr
    refine ⟨fun _ => ⟨h1, e⟩, fun q => ?_⟩
    exfalso
    apply q
    rw [e]
    unfold tokT
    rw [if_pos h2, h3]
  · refine ⟨fun q => ?_, fun _ => ⟨h1, h2⟩⟩
    rcases h3 with h3 | h3
    · exact absurd h3 hne
    · exact absurd q (h3 E)
theorem list_dash {s : ByteArray} (h : ¬ s = ⟨#[45]⟩) : (s.toList == [45]) = false ∧ (!s.toList == [45]) = true := by
  have q : (s.toList == [45]) = false := by
    rw [Lib.toList_data]
    simp only [beq_eq_false_iff_ne, ne_eq]
    intro e
    exact h (ByteArray.ext (Array.ext' e))
  exact ⟨q, by rw [q]; rfl⟩
theorem list_nil {s : ByteArray} (h : ¬ s = ⟨#[]⟩) : ¬ s.toList = [] ∧ s.toList.isEmpty = false := by
  have q : ¬ s.toList = [] := by
    rw [Lib.toList_data]
    intro e
    exact h (ByteArray.ext (Array.ext' e))
  exact ⟨q, by cases e : s.toList with | nil => exact absurd e q | cons => rfl⟩
section
variable {P : Program} (w : World)
theorem wp_app2 {o : Oper} {a : Act} {K : Act → World → Prop} {Q : Exit → Act → World → Prop} (s x : Operand) (t : TypeId)
    (ho : o.op = .call { callee := .builtin .append, args := #[s, x], argTypes := #[t, t] })
    (base : Nat) (e : TypeId) (i : TypeInfo) (z : Value) (size bytes : Nat) (ht : P.underlying t = some (.slice e)) (hi : P.info? e = some i) (hz : i.zero = some z)
    (hsize : i.size = size) (hby : i.bytes = bytes) (hzs : z.cells.size = size) (hsz : 0 < size)
    (v : Value) (n : Nat) (xs : List Value) (hs : a.eval s = v) (hown : w.ownsRow base e size v n xs)
    (ad : Addr) (m c : Nat) (news : List Value) (hx : a.eval x = .slice (some ad) m c) (hl : news.length = m * size) (hnews : ∀ j u, news[j]? = some u → w.cell? (ad.add j) = some u) (h1 : ∀ u ∈ news, u.oneCell' = true)
    (h63 : n + m ≤ maxLen) (hbytes : (n + m) * bytes ≤ 140737488355328) (hbase : base ≤ w.heap.size)
    (h : ∀ oa cap w', w'.ownsRow base e size (.slice oa (n + m) cap) (n + m) (xs ++ news) → w.grownBy w' v.ownBlock → ((Value.slice oa (n + m) cap).ownBlock = v.ownBlock ∨ (Value.slice oa (n + m) cap).ownBlock = some w.heap.size) → K (a.put o.dst (.slice oa (n + m) cap)) w') : o.wp P a w K Q := by
  obtain ⟨v', w', hr, h2, h3, _, h4⟩ := run_append_own_at (P := P) w base t o.type e i z size bytes ht hi hz hsize hby hzs hsz v n xs hown ad m c news hl hnews h1 h63 hbytes hbase
  obtain ⟨oa, cap, rfl⟩ := app_form h2
  unfold Oper.wp execOp
  simp only [ho, resolve, invoke, builtin, Sem.run_bind, Sem.run_pure, Result.andThen_ok, List.map_toArray, List.map_cons, List.map_nil, hs, hx, hr]
  exact h oa cap w' h2 h3 h4
theorem wpList_app2 {ops : Array Oper} {rest : List Oper} {o : Oper} {a : Act} {Q : Exit → Act → World → Prop} (hgd : o.guard = none) (s x : Operand) (t : TypeId)
    (ho : o.op = .call { callee := .builtin .append, args := #[s, x], argTypes := #[t, t] })
    (base : Nat) (e : TypeId) (i : TypeInfo) (z : Value) (size bytes : Nat) (ht : P.underlying t = some (.slice e)) (hi : P.info? e = some i) (hz : i.zero = some z)
    (hsize : i.size = size) (hby : i.bytes = bytes) (hzs : z.cells.size = size) (hsz : 0 < size)
    (v : Value) (n : Nat) (xs : List Value) (hs : a.eval s = v) (hown : w.ownsRow base e size v n xs)
    (ad : Addr) (m c : Nat) (news : List Value) (hx : a.eval x = .slice (some ad) m c) (hl : news.length = m * size) (hnews : ∀ j u, news[j]? = some u → w.cell? (ad.add j) = some u) (h1 : ∀ u ∈ news, u.oneCell' = true)
    (h63 : n + m ≤ maxLen) (hbytes : (n + m) * bytes ≤ 140737488355328) (hbase : base ≤ w.heap.size)
    (h : ∀ oa cap w', w'.ownsRow base e size (.slice oa (n + m) cap) (n + m) (xs ++ news) → w.grownBy w' v.ownBlock → ((Value.slice oa (n + m) cap).ownBlock = v.ownBlock ∨ (Value.slice oa (n + m) cap).ownBlock = some w.heap.size) → wpList P ops Q rest (a.put o.dst (.slice oa (n + m) cap)) w') : wpList P ops Q (o :: rest) a w :=
  wpList_plain hgd fun _ hK => wp_app2 w s x t ho base e i z size bytes ht hi hz hsize hby hzs hsz v n xs hs hown ad m c news hx hl hnews h1 h63 hbytes hbase fun oa cap w' h2 h3 h4 => hK _ _ (h oa cap w' h2 h3 h4)
end
theorem own_grown {u v : World} {B : Nat} {e : TypeId} {k n : Nat} {val : Value} {xs : List Value} {row : Option Nat} (h : u.ownsRow B e k val n xs) (hg : u.grownBy v row) (hne : ∀ g, val.ownBlock = some g → some g ≠ row) : v.ownsRow B e k val n xs := by
  have l := h
  refine ⟨h.1, ?_⟩
  rcases h.2 with h0 | ⟨g, cap, cur, hv, hB, hgb, r⟩
  · exact .inl h0
  · refine .inr ⟨g, cap, cur, hv, hB, (hg.block g (l.lt g (by rw [hv]; rfl)).2 (hne g (by rw [hv]; rfl))).trans hgb, r⟩
set_option maxRecDepth 20000 in
set_option maxHeartbeats 16000000 in
theorem sReadToken_c (s : ByteArray) (hs : s.size ≤ 1048576) (t : List (Int × Int)) (b : Bool) (hr : RT s t b) (w : World) : Calls Tryd.prog 11 #[.string s] w fun e w' => ∃ oc cc, e = .returned (.tuple #[.slice oc t.length cc, .bool b]) ∧ RowN w' w.heap.size oc cc t ∧ Below w.heap.size w w' := by
  have HR := hide hr
  have hs' : (s.size : Int) ≤ 1048576 := by omega
  obtain ⟨inf, hi, hz0, hz1, hz2⟩ := info_parts entInfo2
  clear hr
  by_cases hz : (100 : Int) < (s.size : Int)
  · have hb : b = false ∧ t = [] := by
      rcases unhide HR with ⟨h1, h2, h3⟩ | ⟨h1, h2, _⟩
      · have := RT_size (unhide HR) h1
        omega
      · exact ⟨h1, h2⟩
    obtain ⟨rfl, rfl⟩ := hb
    go_enter Tryd.func11, Tryd.ntmps11
    go_wp2
    exact bodyPost_ret (v := .tuple #[.slice none 0 0, .bool false]) (by simp [results, Tryd.results11, go_sem]) rfl ⟨none, 0, rfl, World.ownsRow_nil _ _ _ _, Below.refl _ _⟩
  by_cases hd : s = ⟨#[45]⟩
  · subst hd
    obtain ⟨rfl, rfl⟩ := RT_dash (unhide HR)
    go_enter Tryd.func11, Tryd.ntmps11
    go_wp2_with fail
    refine (sTokenText_c (some ⟨w.heap.size, 0, none⟩) 0 [] _ ⟨by simp, .inl rfl⟩).mono ?_
    rintro e u ⟨rfl, kb⟩
    rw [show (if tokB [] = true then txt [] else (⟨#[]⟩ : ByteArray)) = ⟨#[45]⟩ from rfl]
    have HB := hide (((Below.refl _ w).alloc (Nat.le_refl _) (Obj.cells #[] 40)).trans (kb.mono (by simp)))
    have HN : Hid (RowN u w.heap.size (some ⟨w.heap.size, 0, none⟩) 0 []) := own_call (w := w.alloc (Obj.cells #[] 40)) ⟨rfl, .inr ⟨w.heap.size, 0, #[], rfl, Nat.le_refl _, heap_alloc_new w _, Nat.le_refl _, by unfold maxLen; omega, rfl, rfl⟩⟩ kb
    clear kb
    go_wp2
    exact bodyPost_ret (v := .tuple #[.slice (some ⟨w.heap.size, 0, none⟩) 0 0, .bool true]) (by simp [results, Tryd.results11, go_sem]) rfl ⟨_, 0, rfl, unhide HN, unhide HB⟩
  · have hq := list_dash hd
    have q1 := hq.1
    have q2 := hq.2
    have HDD := hide hd
    have HE0 : Hid (RowN (w.alloc (Obj.cells #[] 40)) w.heap.size (some ⟨w.heap.size, 0, none⟩) 0 []) := ⟨rfl, .inr ⟨w.heap.size, 0, #[], rfl, Nat.le_refl _, heap_alloc_new w _, Nat.le_refl _, by unfold maxLen; omega, rfl, rfl⟩⟩
    have HB0 := hide ((Below.refl _ w).alloc (Nat.le_refl _) (Obj.cells #[] 40))
    have hz' : s.size ≤ 100 := by omega
    clear hq hd
    go_enter Tryd.func11, Tryd.ntmps11
    go_wp2_with fail
    refine (l1Split_c s hs _).mono ?_
    rintro e u ⟨ow, cw, rfl, hrow, kb⟩
    rw [show (w.alloc (Obj.cells #[] 40)).heap.size = w.heap.size + 1 by simp] at hrow
    have HRS := hide hrow
    have HGW : Hid (∀ g, (Value.slice ow (piecesB s).length cw).ownBlock = some g → w.heap.size + 1 ≤ g ∧ g < u.heap.size) := fun g hg => (show u.ownsRow _ _ _ _ _ _ from hrow).lt g hg
    have HEN := hide (own_call (unhide HE0) kb)
    have HB := hide ((unhide HB0).trans (kb.mono (unhide HB0).size))
    have hpl := piecesB_len s
    have HPS := hide (fun k hk => piecesB_size s k hk)
    have HPT : Hid (tokB t = true → 0 < t.length → s = txt t → piecesB s = t.map entT) := fun h1 h2 h3 => by rw [h3]; exact (txt_pieces h1 h2).1
    clear kb hrow HE0 HB0
    have hpos : 0 < (piecesB s).length := piecesB_pos s
    obtain ⟨g0, rfl, _, _⟩ := RowS.at (unhide HRS) 0 hpos
    generalize piecesB s = ws at hpl hpos HRS HPS HPT HGW ⊢
    have hwl : (ws.length : Int) ≤ 101 := by omega
    have hws : w.heap.size ≤ u.heap.size := (unhide HB).size
    go_wp2
    clear q1 q2
    go_loopw [4, 6] (fun ov iv wr => ∃ (E : List (Int × Int)) (oc : Option Addr) (cc : Nat), E.length ≤ ws.length ∧ iv = .int .i64 E.length ∧ ov = .slice oc E.length cc ∧ RowN wr w.heap.size oc cc E ∧ ReadP ws E ∧ Below w.heap.size w wr ∧ (∀ j, (Value.slice oc E.length cc).ownBlock = some j → j = w.heap.size ∨ u.heap.size ≤ j) ∧ RowS wr (w.heap.size + 1) (some ⟨g0, 0, none⟩) cw ws ∧ u.heap.size ≤ wr.heap.size) (fun _ iv _ => ws.length - (intOf iv).toNat)
    case atStart => exact ⟨[], _, _, Nat.zero_le _, rfl, rfl, unhide HEN, fun j _ h2 => absurd h2 (Nat.not_lt_zero j), unhide HB, fun j hj => .inl (by injection hj with q; exact q.symm), unhide HRS, Nat.le_refl _⟩
    case round =>
      obtain ⟨E, oc, cc, hEl, rfl, rfl, ho, hrp, hb, hjl, hrs, hus⟩ := hrel
      have HO := hide ho
      have HRP := hide hrp
      have HBR := hide hb
      have HJL := hide hjl
      have HRW := hide hrs
      have HUS := hide hus
      clear ho hrp hb hjl hrs hus
      by_cases hlt : E.length < ws.length
      · obtain ⟨g, hoc, hg, hc⟩ := RowS.at (unhide HRW) E.length hlt
        obtain rfl : g0 = g := by injection hoc with q; injection q
        clear hoc
        have hwz := (unhide HPS) E.length hlt
        have HSN : Hid (∀ p : Int × Int, (∀ x y : Nat, x < 100 → y < 100 → ws[E.length] = entT ((x : Int), (y : Int)) → p = ((x : Int), (y : Int))) → ReadP ws (E ++ [p])) := fun p hp => readP_snoc (unhide HRP) hlt hp
        generalize ws[E.length] = wk at hc hwz HSN
        have hlt' : (E.length : Int) < (ws.length : Int) := by omega
        go_wp2_with fail
        refine (l1Cut_c 58 wk (by omega) _).mono ?_
        rintro e v ⟨hcut, kb⟩
        obtain ⟨ta, tb, tf, rfl⟩ := cut_tuple hcut
        have HCS := hide (cut_sizes hcut)
        have HCU := hide hcut
        have HO := hide (own_call (unhide HO) kb)
        have HBR := hide ((unhide HBR).trans (kb.mono (unhide HBR).size))
        have HRW := hide (own_call (unhide HRW) kb)
        have HUS := hide (Nat.le_trans (unhide HUS) kb.size)
        clear kb hcut hc hg
        go_wp2_with fail
        refine (l1NumP_c ta (by have := unhide HCS; omega) _).mono ?_
        rintro e v2 ⟨⟨n1, b1, rfl, hn1⟩, kb⟩
        have HN1 := hide hn1
        have HO := hide (own_call (unhide HO) kb)
        have HBR := hide ((unhide HBR).trans (kb.mono (unhide HBR).size))
        have HRW := hide (own_call (unhide HRW) kb)
        have HUS := hide (Nat.le_trans (unhide HUS) kb.size)
        clear kb hn1
        go_wp2_with fail
        refine (l1NumP_c tb (by have := unhide HCS; omega) _).mono ?_
        rintro e v3 ⟨⟨n2, b2, rfl, hn2⟩, kb⟩
        have HN2 := hide hn2
        have HO := hide (own_call (unhide HO) kb)
        have HBR := hide ((unhide HBR).trans (kb.mono (unhide HBR).size))
        have HRW := hide (own_call (unhide HRW) kb)
        have HUS := hide (Nat.le_trans (unhide HUS) kb.size)
        clear kb hn2
        have HNEW := hide ((unhide HSN) (n1, n2) (fun x y hx hy e => by
          have hcu := unhide HCU
          rw [e] at hcu
          have q := cut_ent hx hcu
          simp only [Ending.returned.injEq, Value.tuple.injEq, Array.mk.injEq, List.cons.injEq, Value.string.injEq, Value.bool.injEq, and_true] at q
          obtain ⟨rfl, rfl, _⟩ := q
          rw [(unhide HN1) x hx rfl, (unhide HN2) y hy rfl]))
        clear HSN HCU HCS HN1 HN2 HRP
        have hbs := (unhide HBR).size
        go_wp2_with (at_builtin; refine wpList_app2 _ rfl _ _ 24 rfl w.heap.size 40 inf (.agg #[.int .i64 0, .int .i64 0]) 2 16 Tryd.underlying24 hi hz0 hz1 hz2 rfl (by decide) _ _ _ rfl (own_call (unhide HO) ((Below.refl _ v3).alloc (Nat.le_refl _) _)) ⟨_, 0, none⟩ 1 1 [.int .i64 n1, .int .i64 n2] rfl rfl (World.news_of_block (heap_alloc_new _ _)) (by simp [Value.oneCell']) (by unfold maxLen; omega) (by omega) (by simp; omega) ?_; intro oc' cc' w3 hown hgrow hloc)
        go_roundw
        case rel => exact ⟨E ++ [(n1, n2)], oc', cc', by rw [List.length_append]; simp; omega, by rw [List.length_append]; go_num, by simp, by unfold RowN; rw [cellsW_app, List.length_append]; exact hown, unhide HNEW, ((unhide HBR).alloc hbs _).grown hgrow (by simp; omega) (fun j hj => ((unhide HO).lt j hj).1), fun j hj => by
          rw [show (E ++ [(n1, n2)]).length = E.length + 1 by simp] at hj
          rw [hj] at hloc
          have hus := unhide HUS
          rcases hloc with q | q
          · exact (unhide HJL) j q.symm
          · have := Option.some.inj q
            simp at this
            exact .inr (by omega), own_grown (own_call (unhide HRW) ((Below.refl _ v3).alloc (Nat.le_refl _) _)) hgrow (fun g hg e => by
          have h1 := (unhide HGW) g hg
          have h2 := (unhide HJL) g e.symm
          omega), Nat.le_trans (unhide HUS) (by have := hgrow.size; simp at this; omega)⟩
        case measure => simp [intOf]; omega
      · have el : E.length = ws.length := by omega
        have hlt' : ¬ (E.length : Int) < (ws.length : Int) := by omega
        have HE1 := hide ((RT_read (unhide HR) · (unhide HDD) (fun h1 h2 h3 => (unhide HPT) h1 h2 h3) el (unhide HRP)))
        have HRI := hide ((unhide HO).ivs (by omega))
        clear HRW HPS el
        by_cases he : s = ⟨#[]⟩
        · have hbt : b = false ∧ t = [] := by
            rcases unhide HR with ⟨_, h2, h3⟩ | ⟨h1, h2, _⟩
            · exfalso
              rw [he] at h3
              by_cases q : 0 < t.length
              · exact (txt_pieces h2 q).2.2 h3.symm
              · have : t = [] := List.eq_nil_of_length_eq_zero (by omega)
                subst this
                cases h3
            · exact ⟨h1, h2⟩
          obtain ⟨rfl, rfl⟩ := hbt
          have q0 : s.toList = [] := by rw [he]; exact List.isEmpty_iff.1 (by unfold ByteArray.toList ByteArray.toList.loop; rfl)
          clear he HE1
          go_wp2
          exact bodyPost_ret (v := .tuple #[.slice none 0 0, .bool false]) (by simp [results, Tryd.results11, go_sem]) rfl ⟨none, 0, rfl, World.ownsRow_nil _ _ _ _, unhide HBR⟩
        · have hne := list_nil he
          have q3 := hne.1
          have q4 := hne.2
          have HE2 := hide ((unhide HE1) he)
          clear hne he HE1
          go_wp2_with fail
          refine (sTokenText_c oc cc E _ (unhide HRI)).mono ?_
          rintro e v ⟨rfl, kb⟩
          rw [show (if tokB E = true then txt E else (⟨#[]⟩ : ByteArray)) = tokT E from rfl]
          have HO := hide (own_call (unhide HO) kb)
          have HBR := hide ((unhide HBR).trans (kb.mono (unhide HBR).size))
          clear kb
          by_cases hts : tokT E = s
          · obtain ⟨rfl, rfl⟩ := (unhide HE2).1 hts
            rw [hts]
            clear hts HE2
            go_wp2
            exact bodyPost_ret (v := .tuple #[.slice oc E.length cc, .bool true]) (by simp [results, Tryd.results11, go_sem]) rfl ⟨oc, cc, rfl, unhide HO, unhide HBR⟩
          · obtain ⟨rfl, rfl⟩ := (unhide HE2).2 hts
            have hq := ne_list hts
            clear hts HE2
            generalize tokT E = V at hq ⊢
            go_wp2
            exact bodyPost_ret (v := .tuple #[.slice none 0 0, .bool false]) (by simp [results, Tryd.results11, go_sem]) rfl ⟨none, 0, rfl, World.ownsRow_nil _ _ _ _, unhide HBR⟩
end Go.Proofs.YtppchebikafmeaaDoor
