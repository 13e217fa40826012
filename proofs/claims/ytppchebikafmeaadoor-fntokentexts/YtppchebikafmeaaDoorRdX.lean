/- Reading a token: the program's likely token. -/
import Derived.Test.YtppchebikafmeaaDoorRdW
namespace Go.Proofs.YtppchebikafmeaaDoor
open Go.RowKit
set_option linter.unusedSimpArgs false
set_option linter.unusedVariables false

theorem own_base {w : World} {B B' : Nat} {e : TypeId} {k n : Nat} {v : Value} {xs : List Value} (h : w.ownsRow B e k v n xs) (hB : B' ≤ B) : w.ownsRow B' e k v n xs := by
  refine ⟨h.1, ?_⟩
  rcases h.2 with h0 | ⟨g, cap, cur, hv, hBg, r⟩
  · exact .inl h0
  · exact .inr ⟨g, cap, cur, hv, Nat.le_trans hB hBg, r⟩
theorem ba_empty {a : ByteArray} (h : a.size = 0) : a = ⟨#[]⟩ := by
  obtain ⟨⟨l⟩⟩ := a
  cases l with
  | nil => rfl
  | cons => simp [ByteArray.size] at h
/-- What a likely token is. -/
def LikT (s : ByteArray) (E : List (Int × Int)) : Prop := (s = ⟨#[45]⟩ ∧ E = []) ∨ (¬ s = ⟨#[45]⟩ ∧ E.length = (W4 s).length ∧ ReadP (W4 s) E ∧ (s = ⟨#[]⟩ → E = [((0 : Int), (0 : Int))]))
theorem LikT.len {s : ByteArray} {E : List (Int × Int)} (h : LikT s E) : E.length ≤ 4 := by
  rcases h with ⟨_, rfl⟩ | ⟨_, h, _⟩
  · simp
  · have := (split_some (min 4 (s.size + 1) - 1) s).2.1
    unfold W4 at h
    omega
theorem likT_mk {s : ByteArray} {E : List (Int × Int)} (hd : ¬ s = ⟨#[45]⟩) (h : E.length = (W4 s).length) (hr : ReadP (W4 s) E) (hz : s = ⟨#[]⟩ → ∀ p ∈ E, p = ((0 : Int), (0 : Int))) : LikT s E := by
  refine .inr ⟨hd, h, hr, fun e => ?_⟩
  have q := hz e
  obtain ⟨h1, h2, _⟩ := split_some (min 4 (s.size + 1) - 1) s
  unfold W4 at h
  have z : s.size = 0 := by rw [e]; rfl
  have l : E.length = 1 := by omega
  obtain ⟨p, rfl⟩ := List.length_eq_one_iff.1 l
  rw [q p (List.mem_singleton.2 rfl)]
theorem parse_empty : Lib.parseIntB 64 [] = .syntax := by decide
/-- A number read, and what it is at a small number's text and at the empty one. -/
def LikQ (a : ByteArray) (e : Ending) : Prop := ∃ n : Int, e = .returned (.int .i64 n) ∧ (∀ m : Nat, m < 100 → a = decB m → n = m) ∧ (a = ⟨#[]⟩ → n = 0)
set_option maxRecDepth 20000 in
set_option maxHeartbeats 4000000 in
theorem likely0_c (w : World) (he : ERR w) : Calls Tryd.prog 45 #[.string ⟨#[]⟩] w fun e w' => e = .returned (.int .i64 0) ∧ Below w.heap.size w w' := by
  obtain ⟨⟨t, p, h1⟩, t2, p2, h2⟩ := he
  have K := Tryd.strconv_ParseInt_10_at64_syntax ⟨#[]⟩ (by decide) parse_empty _ w h1 (.inr ⟨t, p, rfl⟩)
  generalize (⟨#[]⟩ : ByteArray) = s at K ⊢
  have HK := hide K
  clear K h1 h2
  go_enter Tryd.func45, Tryd.ntmps45
  go_wp2_with fail
  refine (unhide HK).mono ?_
  rintro e u ⟨N, rfl, _, _, kb⟩
  have HB := hide kb
  clear kb HK
  go_wp2
  go_ret
  exact ⟨rfl, unhide HB⟩
theorem likQ_c (a : ByteArray) (ha : a.size ≤ 1048576) (w : World) (he : ERR w) : Calls Tryd.prog 45 #[.string a] w fun e w' => LikQ a e ∧ Below w.heap.size w w' := by
  by_cases h : a = ⟨#[]⟩
  · subst h
    refine (likely0_c w he).mono ?_
    rintro e u ⟨rfl, kb⟩
    refine ⟨⟨0, rfl, fun m hm e => ?_, fun _ => rfl⟩, kb⟩
    have p := parse_dec m hm
    rw [← e] at p
    exact absurd (p.symm.trans parse_empty) (by simp)
  · refine (likP_c a ha w he).mono ?_
    rintro e u ⟨⟨n, rfl, hn⟩, kb⟩
    exact ⟨⟨n, rfl, hn, fun e => absurd e h⟩, kb⟩
set_option maxRecDepth 20000 in
set_option maxHeartbeats 16000000 in
theorem likTok_c (s : ByteArray) (hs : s.size ≤ 1048576) (w : World) (her : ERR w) : Calls Tryd.prog 28 #[.string s] w fun e w' => ∃ (E : List (Int × Int)) (oc : Option Addr) (cc : Nat), e = .returned (.slice oc E.length cc) ∧ RowN w' w.heap.size oc cc E ∧ Below w.heap.size w w' ∧ LikT s E := by
  obtain ⟨inf, hi, hz0, hz1, hz2⟩ := info_parts entInfo2
  have HER0 := hide her
  clear her
  by_cases hd : s = ⟨#[45]⟩
  · subst hd
    go_enter Tryd.func28, Tryd.ntmps28
    go_wp2
    go_ret
    exact ⟨[], none, 0, rfl, World.ownsRow_nil _ _ _ _, Below.refl _ _, .inl ⟨rfl, rfl⟩⟩
  · have hq := list_dash hd
    have q1 := hq.1
    have q2 := hq.2
    have HDD := hide hd
    clear hq hd
    go_enter Tryd.func28, Tryd.ntmps28
    go_wp2_with fail
    refine (splitN_c s hs _).mono ?_
    rintro e u ⟨cw, rfl, hcells, kb⟩
    have HB0 := hide kb
    have HER := hide ((unhide HER0).call kb)
    obtain ⟨hpos, hl4, hsz⟩ := split_some (min 4 (s.size + 1) - 1) s
    have hl : (W4 s).length ≤ 4 := by unfold W4; omega
    have HC : Hid (∀ k, (h : k < (W4 s).length) → u.cell? ⟨w.heap.size, k, none⟩ = some (.string (W4 s)[k]) ∧ (W4 s)[k].size ≤ s.size) := fun k h => ⟨hcells k h, hsz _ (List.getElem_mem h)⟩
    have HLT : Hid (∀ E : List (Int × Int), E.length = (W4 s).length → ReadP (W4 s) E → (s = ⟨#[]⟩ → ∀ p ∈ E, p = ((0 : Int), (0 : Int))) → LikT s E) := fun E h1 h2 h3 => likT_mk (unhide HDD) h1 h2 h3
    clear kb hcells HER0 hpos hl4 hsz
    generalize W4 s = ws at hl HC HLT ⊢
    have hwl : (ws.length : Int) ≤ 4 := by omega
    go_wp2
    clear q1 q2
    go_loopw [3, 14] (fun ov iv wr => ∃ (E : List (Int × Int)) (oc : Option Addr) (cc : Nat), E.length ≤ ws.length ∧ iv = .int .i64 E.length ∧ ov = .slice oc E.length cc ∧ RowN wr u.heap.size oc cc E ∧ ReadP ws E ∧ Below u.heap.size u wr ∧ (s = ⟨#[]⟩ → ∀ p ∈ E, p = ((0 : Int), (0 : Int)))) (fun _ iv _ => ws.length - (intOf iv).toNat)
    case atStart => exact ⟨[], none, 0, Nat.zero_le _, rfl, rfl, World.ownsRow_nil _ _ _ _, fun j _ h2 => absurd h2 (Nat.not_lt_zero j), Below.refl _ _, fun _ p hp => absurd hp List.not_mem_nil⟩
    case round =>
      obtain ⟨E, oc, cc, hEl, rfl, rfl, ho, hrp, hb, hze⟩ := hrel
      have HZE := hide hze
      have HO := hide ho
      have HRP := hide hrp
      have HBR := hide hb
      clear ho hrp hb hze
      by_cases hlt : E.length < ws.length
      · obtain ⟨hc0, hwz⟩ := (unhide HC) E.length hlt
        have hc := ((unhide HBR).cell (World.block_lt_of_cell? u _ hc0)).trans hc0
        clear hc0
        have HSN : Hid (∀ p : Int × Int, (∀ x y : Nat, x < 100 → y < 100 → ws[E.length] = entT ((x : Int), (y : Int)) → p = ((x : Int), (y : Int))) → ReadP ws (E ++ [p])) := fun p hp => readP_snoc (unhide HRP) hlt hp
        generalize ws[E.length] = wk at hc hwz HSN
        have hlt' : (E.length : Int) < (ws.length : Int) := by omega
        go_wp2_with fail
        refine (cut_c 58 wk (by omega) _).mono ?_
        rintro e v ⟨hcut0, kb⟩
        have hcut : CutE 58 wk e := hcut0
        clear hcut0
        obtain ⟨ta, tb, tf, rfl⟩ := cut_tuple hcut
        have HCS := hide (cut_sizes hcut)
        have HCU := hide hcut
        have HO := hide (own_call (unhide HO) kb)
        have HBR := hide ((unhide HBR).trans (kb.mono (unhide HBR).size))
        clear kb hcut hc
        go_wp2_with fail
        refine (likQ_c ta (by have := unhide HCS; omega) _ ((unhide HER).call (unhide HBR))).mono ?_
        rintro e v2 ⟨⟨n1, rfl, hn1, hm1⟩, kb⟩
        have HN1 := hide hn1
        have HM1 := hide hm1
        have HO := hide (own_call (unhide HO) kb)
        have HBR := hide ((unhide HBR).trans (kb.mono (unhide HBR).size))
        clear kb hn1 hm1
        go_wp2_with fail
        refine (likQ_c tb (by have := unhide HCS; omega) _ ((unhide HER).call (unhide HBR))).mono ?_
        rintro e v3 ⟨⟨n2, rfl, hn2, hm2⟩, kb⟩
        have HN2 := hide hn2
        have HM2 := hide hm2
        have HO := hide (own_call (unhide HO) kb)
        have HBR := hide ((unhide HBR).trans (kb.mono (unhide HBR).size))
        clear kb hn2 hm2
        have HNEW := hide ((unhide HSN) (n1, n2) (fun x y hx hy e => by
          have hcu := unhide HCU
          rw [e] at hcu
          have q := cut_ent hx hcu
          simp only [Ending.returned.injEq, Value.tuple.injEq, Array.mk.injEq, List.cons.injEq, Value.string.injEq, Value.bool.injEq, and_true] at q
          obtain ⟨rfl, rfl, _⟩ := q
          rw [(unhide HN1) x hx rfl, (unhide HN2) y hy rfl]))
        have HZN : Hid (s = ⟨#[]⟩ → ∀ p ∈ E ++ [(n1, n2)], p = ((0 : Int), (0 : Int))) := fun e p hp => by
          have z : s.size = 0 := by rw [e]; rfl
          have hcs := unhide HCS
          rcases List.mem_append.1 hp with hp | hp
          · exact (unhide HZE) e p hp
          · rw [List.mem_singleton.1 hp, (unhide HM1) (ba_empty (by omega)), (unhide HM2) (ba_empty (by omega))]
        clear HSN HCU HCS HN1 HN2 HM1 HM2 HZE HRP
        have hbs := (unhide HBR).size
        go_wp2_with (at_builtin; refine wpList_app2 _ rfl _ _ 24 rfl u.heap.size 40 inf (.agg #[.int .i64 0, .int .i64 0]) 2 16 Tryd.underlying24 hi hz0 hz1 hz2 rfl (by decide) _ _ _ rfl (own_call (unhide HO) ((Below.refl _ v3).alloc (Nat.le_refl _) _)) ⟨_, 0, none⟩ 1 1 [.int .i64 n1, .int .i64 n2] rfl rfl (World.news_of_block (heap_alloc_new _ _)) (by simp [Value.oneCell']) (by unfold maxLen; omega) (by omega) (by simp; omega) ?_; intro oc' cc' w3 hown hgrow hloc)
        go_roundw
        case rel => exact ⟨E ++ [(n1, n2)], oc', cc', by rw [List.length_append]; simp; omega, by rw [List.length_append]; go_num, by simp, by unfold RowN; rw [cellsW_app, List.length_append]; exact hown, unhide HNEW, ((unhide HBR).alloc hbs _).grown hgrow (by simp; omega) (fun j hj => ((unhide HO).lt j hj).1), unhide HZN⟩
        case measure => simp [intOf]; omega
      · have el : E.length = ws.length := by omega
        have hlt' : ¬ (E.length : Int) < (ws.length : Int) := by omega
        have HF := hide (And.intro (And.intro (own_base (unhide HO) (unhide HB0).size) ((unhide HB0).trans ((unhide HBR).mono (unhide HB0).size))) ((unhide HLT) E el (unhide HRP) (unhide HZE)))
        clear HO HBR HLT HRP HZE HC el
        go_wp2
        go_ret
        exact ⟨E, oc, cc, rfl, (unhide HF).1.1, (unhide HF).1.2, (unhide HF).2⟩
end Go.Proofs.YtppchebikafmeaaDoor
