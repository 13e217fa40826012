/- Texts that go together: StoI, LawE, LawS. -/
import Derived.Test.YtpdnnpnclgcpoaaDoorEnX
import Derived.Test.YtpdnnpnclgcpoaaDoorDoZ
/- Right stores, as the program asks for them. -/
namespace Go.Proofs.YtpdnnpnclgcpoaaDoor
open Go.RowKit
set_option linter.unusedSimpArgs false

def szT (m n : Nat) (js : List (List Int)) (l : Int) : Int := if sz1 m l < 0 then -1 else if sz1 n (sz1 m l) < 0 then -1 else szM js (sz1 n (sz1 m l))
theorem szN_le (xs : List Nat) : ∀ l, 0 ≤ l → szN xs l ≤ l ∧ -1 ≤ szN xs l ∧ (0 ≤ szN xs l → ∀ x ∈ xs, (x : Int) ≤ l) := by
  induction xs with
  | nil => intro l h; exact ⟨Int.le_refl _, by show -1 ≤ l; omega, fun _ x hx => by cases hx⟩
  | cons y ys ih =>
    intro l h
    unfold szN
    split
    · exact ⟨by omega, by omega, fun h => by omega⟩
    · have := ih (l - y) (by omega)
      refine ⟨by omega, by omega, fun h0 x hx => ?_⟩
      rcases List.mem_cons.1 hx with rfl | hx
      · omega
      · have := this.2.2 h0 x hx; omega
theorem szM_le (xss : List (List Int)) (l : Int) (h : 0 ≤ l) : szM xss l ≤ l ∧ -1 ≤ szM xss l ∧ (0 ≤ szM xss l → (xss.length : Int) ≤ l ∧ ∀ x ∈ xss, (x.length : Int) ≤ l) := by
  unfold szM
  split
  · exact ⟨by omega, by omega, fun h => by omega⟩
  · have q := szN_le (xss.map List.length) (l - xss.length) (by omega)
    refine ⟨by omega, q.2.1, fun h0 => ⟨by omega, fun x hx => ?_⟩⟩
    have := q.2.2 h0 x.length (List.mem_map.2 ⟨x, hx, rfl⟩)
    omega
theorem szT_le (m n : Nat) (js : List (List Int)) (l : Int) (h : 0 ≤ l) : szT m n js l ≤ l ∧ -1 ≤ szT m n js l ∧ (0 ≤ szT m n js l → (m : Int) ≤ l ∧ (n : Int) ≤ l ∧ (js.length : Int) ≤ l ∧ ∀ x ∈ js, (x.length : Int) ≤ l) := by
  have q1 := sz1_le m l h
  unfold szT
  split
  · exact ⟨by omega, by omega, fun h => by omega⟩
  · have q2 := sz1_le n (sz1 m l) (by omega)
    split
    · exact ⟨by omega, by omega, fun h => by omega⟩
    · have q3 := szM_le js (sz1 n (sz1 m l)) (by omega)
      refine ⟨by omega, by omega, fun h0 => ⟨q1.2.2 (by omega), by have := q2.2.2 (by omega); omega, by have := (q3.2.2 h0).1; omega, fun x hx => by have := (q3.2.2 h0).2 x hx; omega⟩⟩
theorem Mats.ofA {w : World} {a : Option Addr} {xss : List (List Int)} (h : MatsA w a xss) (hl : (xss.length : Int) ≤ 1048576) (he : ∀ x ∈ xss, (x.length : Int) ≤ 1048576) : Mats w a xss := by
  refine ⟨by omega, ?_⟩
  rcases h.2.2 with h0 | ⟨cb, co, e, hc⟩
  · exact .inl h0
  · refine .inr ⟨cb, co, e, fun i hi => ?_⟩
    obtain ⟨b, c, q1, q2⟩ := hc i hi
    have := he xss[i] (List.getElem_mem hi)
    exact ⟨b, c, q1, by omega, q2⟩
set_option maxRecDepth 20000 in
set_option maxHeartbeats 4000000 in
theorem iStoreOk_c (a1 a2 a3 : Option Addr) (c1 c2 c3 : Nat) (vs fs : List ByteArray) (rs : List (ByteArray × Int)) (e1 e2 e3 : Option Addr) (d1 d2 d3 : Nat) (is : List Int) (bs : List Bool) (js : List (List Int)) (w : World) (hw : KW w) (hv : Strs w a1 vs) (hf : Strs w a2 fs) (hr : Arrs w a3 rs)
    (hz : ∀ x ∈ namesOf vs fs rs, x.size ≤ 1048576) (hj : Mats w e3 js) :
    Calls Tryd.prog 39 #[.agg #[.slice a1 vs.length c1, .slice a2 fs.length c2, .slice a3 rs.length c3], .agg #[.slice e1 is.length d1, .slice e2 bs.length d2, .slice e3 js.length d3]] w
    fun e w' => e = .returned (.bool (storeB vs fs rs is bs js)) ∧ Below w.heap.size w w' := by
  have HW := hide hw
  have HV := hide hv
  have HF := hide hf
  have HR := hide hr
  have HZ := hide hz
  have HJ := hide hj
  have T0 := (C3.new w (.slice a1 vs.length c1) (.slice a2 fs.length c2) (.slice a3 rs.length c3) 27).alloc (Obj.cells #[.slice e1 is.length d1, .slice e2 bs.length d2, .slice e3 js.length d3] 35)
  have T1 := C3.new (w.alloc (Obj.cells #[.slice a1 vs.length c1, .slice a2 fs.length c2, .slice a3 rs.length c3] 27)) (.slice e1 is.length d1) (.slice e2 bs.length d2) (.slice e3 js.length d3) 35
  have K0 : Below w.heap.size w ((w.alloc (Obj.cells #[.slice a1 vs.length c1, .slice a2 fs.length c2, .slice a3 rs.length c3] 27)).alloc (Obj.cells #[.slice e1 is.length d1, .slice e2 bs.length d2, .slice e3 js.length d3] 35)) := ((Below.refl _ _).alloc (Nat.le_refl _) _).alloc (by simp) _
  rw [show (w.alloc (Obj.cells #[.slice a1 vs.length c1, .slice a2 fs.length c2, .slice a3 rs.length c3] 27)).heap.size = w.heap.size + 1 by simp] at T1
  have HT0 := hide T0
  have HT1 := hide T1
  have HK := hide K0
  clear T0 T1 K0 hv hf hr hz hj hw
  go_enter Tryd.func39, Tryd.ntmps39
  go_wp2_with fail
  generalize (w.alloc (Obj.cells #[.slice a1 vs.length c1, .slice a2 fs.length c2, .slice a3 rs.length c3] 27)).alloc (Obj.cells #[.slice e1 is.length d1, .slice e2 bs.length d2, .slice e3 js.length d3] 35) = u at HT0 HT1 HK ⊢
  refine (iDeclOk_c a1 a2 a3 _ _ _ vs fs rs _ ((unhide HW).call (unhide HK)) ((unhide HV).call (unhide HK)) ((unhide HF).call (unhide HK)) ((unhide HR).call (unhide HK)) (unhide HZ)).mono ?_
  rintro e u1 ⟨rfl, kb⟩
  have HT0 := hide ((unhide HT0).call kb)
  have HT1 := hide ((unhide HT1).call kb)
  have HK := hide ((unhide HK).trans (kb.mono (unhide HK).size))
  clear kb
  have HE := hide (show storeB vs fs rs is bs js = (declB vs fs rs && decide (stoP vs.length fs.length rs is bs js)) from rfl)
  cases hd : declB vs fs rs
  · rw [hd] at HE
    go_wp2
    go_ret
    exact ⟨by rw [unhide HE]; rfl, unhide HK⟩
  rw [hd, Bool.true_and] at HE
  obtain ⟨hl1, hl2, hl3⟩ := declB_len hd
  clear hd
  have b0 := (unhide HT0).1
  have b1 := (unhide HT0).2.1
  have b2 := (unhide HT0).2.2.1
  have t0 := (unhide HT1).1
  have t1 := (unhide HT1).2.1
  have t2 := (unhide HT1).2.2.1
  by_cases g1 : is.length = vs.length
  case neg =>
    have HN := hide (show storeB vs fs rs is bs js = false by rw [unhide HE]; exact decide_eq_false (fun h => g1 h.1))
    have g4 : ((is.length : Int) != (vs.length : Int)) = true := by rw [bne_iff_ne]; omega
    clear g1
    go_wp2
    go_ret
    exact ⟨by rw [unhide HN]; rfl, unhide HK⟩
  have g4 : ((is.length : Int) != (vs.length : Int)) = false := by rw [bne_eq_false_iff_eq]; omega
  by_cases g2 : bs.length = fs.length
  case neg =>
    have HN := hide (show storeB vs fs rs is bs js = false by rw [unhide HE]; exact decide_eq_false (fun h => g2 h.2.1))
    have g5 : ((bs.length : Int) != (fs.length : Int)) = true := by rw [bne_iff_ne]; omega
    clear g1 g2
    go_wp2
    go_ret
    exact ⟨by rw [unhide HN]; rfl, unhide HK⟩
  have g5 : ((bs.length : Int) != (fs.length : Int)) = false := by rw [bne_eq_false_iff_eq]; omega
  by_cases g3 : js.length = rs.length
  case neg =>
    have HN := hide (show storeB vs fs rs is bs js = false by rw [unhide HE]; exact decide_eq_false (fun h => g3 h.2.2.1))
    have g6 : ((js.length : Int) != (rs.length : Int)) = true := by rw [bne_iff_ne]; omega
    clear g1 g2 g3
    go_wp2
    go_ret
    exact ⟨by rw [unhide HN]; rfl, unhide HK⟩
  have g6 : ((js.length : Int) != (rs.length : Int)) = false := by rw [bne_eq_false_iff_eq]; omega
  have HG := hide (show (∀ k, (h : k < rs.length) → ((js.getD k []).length : Int) = rs[k].2) → storeB vs fs rs is bs js = true from fun h => by rw [unhide HE]; exact decide_eq_true ⟨g1, g2, g3, h⟩)
  have HG2 := hide (show ∀ k, (h : k < rs.length) → ((js.getD k []).length : Int) ≠ rs[k].2 → storeB vs fs rs is bs js = false from fun k h e => by rw [unhide HE]; exact decide_eq_false (fun hh => e (hh.2.2.2 k h)))
  have HJR := hide g3
  have hJ : rs.length ≤ 2 := by omega
  have hJ' : (rs.length : Int) ≤ 2 := by omega
  clear g1 g2 g3 HE
  go_wp2
  clear b0 b1 t0 t1 t2 b2 g4 g5 g6
  go_loopw [40] (fun i wr => ∃ k : Nat, k ≤ rs.length ∧ i = .int .i64 k ∧ (∀ j, (h : j < rs.length) → j < k → ((js.getD j []).length : Int) = rs[j].2) ∧ Below u1.heap.size u1 wr) (fun i _ => rs.length - (intOf i).toNat)
  case atStart => exact ⟨0, Nat.zero_le _, rfl, fun j _ h => by omega, Below.refl _ _⟩
  case round =>
    obtain ⟨k, hk, rfl, hall, hb⟩ := hrel
    have HA := hide hall
    have HB := hide ((unhide HK).trans (hb.mono (unhide HK).size))
    have HB1 := hide hb
    have t2 := ((unhide HT1).call hb).2.2.1
    by_cases hr' : k < rs.length
    · have hlt : k < js.length := by rw [unhide HJR]; exact hr'
      have hlj : (k : Int) < (js.length : Int) := by omega
      rcases (((unhide HJ).call (unhide HB))).2 with h0 | ⟨cb, co, e, hc⟩
      · omega
      cases e
      obtain ⟨ba, bc, q1, _⟩ := hc k hlt
      rcases (((unhide HR).call (unhide HB))).2 with h0 | ⟨cb, co, e, hc2⟩
      · omega
      cases e
      have q2 := (hc2 k hr').2
      have q3 := (hc2 k hr').1
      generalize rs[k].1 = nm at q3
      have ek : js.getD k [] = js[k] := by simp [List.getD, hlt]
      have HI := hide (show (js[k].length : Int) = rs[k].2 → ∀ j, (h : j < rs.length) → j < k + 1 → ((js.getD j []).length : Int) = rs[j].2 from fun e j h hj => by
        by_cases q : j = k
        · subst q; rw [ek]; exact e
        · exact unhide HA j h (by omega))
      have HX := hide (show (js[k].length : Int) ≠ rs[k].2 → storeB vs fs rs is bs js = false from fun e => unhide HG2 k hr' (by rw [ek]; exact e))
      have ml : js[k].length ≤ 1048576 := by
        obtain ⟨_, _, _, qi⟩ := hc k hlt
        exact qi.1
      clear hc hc2 hall hb ek
      generalize js[k].length = x at q1 HI HX ml
      generalize rs[k].2 = z at q2 HI HX
      have ml' : (x : Int) ≤ 1048576 := by omega
      by_cases hx : (x : Int) = z
      · have HI2 := hide (unhide HI hx)
        have hx2 : ((x : Int) != z) = false := by rw [bne_eq_false_iff_eq]; exact hx
        have ka := (Below.refl _ wr).alloc (Nat.le_refl _) (Obj.cells #[.string nm, .int .i64 z] 95)
        have z1 := (ka.cell (World.block_lt_of_cell? wr _ t2)).trans t2
        have z2 := (ka.cell (World.block_lt_of_cell? wr _ q1)).trans q1
        have z3 : (wr.alloc (Obj.cells #[.string nm, .int .i64 z] 95)).cell? ⟨wr.heap.size, 1, none⟩ = some (.int .i64 z) := by simp
        have HB2 := hide ((unhide HB1).trans (ka.mono (unhide HB1).size))
        clear HI HX hx ka
        go_wp2
        clear q1 q2 q3 t2
        generalize wr.alloc (Obj.cells #[.string nm, .int .i64 z] 95) = wz at z1 z2 z3 HB2 ⊢
        go_quiet (fail)
        go_wp2
        go_roundw
        case rel => exact ⟨k + 1, by omega, by go_num, unhide HI2, (unhide HB2).trans ((bdrew _ _).mono (unhide HB2).size)⟩
        case measure => simp [intOf]; omega
      · have HN := hide (unhide HX hx)
        have hx2 : ((x : Int) != z) = true := by rw [bne_iff_ne]; exact hx
        have ka := (Below.refl _ wr).alloc (Nat.le_refl _) (Obj.cells #[.string nm, .int .i64 z] 95)
        have z1 := (ka.cell (World.block_lt_of_cell? wr _ t2)).trans t2
        have z2 := (ka.cell (World.block_lt_of_cell? wr _ q1)).trans q1
        have z3 : (wr.alloc (Obj.cells #[.string nm, .int .i64 z] 95)).cell? ⟨wr.heap.size, 1, none⟩ = some (.int .i64 z) := by simp
        have HB2 := hide ((unhide HB).trans (ka.mono (unhide HB).size))
        clear HI HX hx ka
        go_wp2
        clear q1 q2 q3 t2
        generalize wr.alloc (Obj.cells #[.string nm, .int .i64 z] 95) = wz at z1 z2 z3 HB2 ⊢
        go_quiet (fail)
        go_wp2
        go_ret
        exact ⟨by rw [unhide HN]; rfl, (unhide HB2).trans ((bdrew _ _).mono (unhide HB2).size)⟩
    · have HN := hide (unhide HG (fun j hj => unhide HA j hj (by omega)))
      clear hall hb
      go_wp2
      go_ret
      exact ⟨by rw [unhide HN]; rfl, unhide HB⟩
end Go.Proofs.YtpdnnpnclgcpoaaDoor

/- The law of EnvOk: its walk. -/
namespace Go.Proofs.YtpdnnpnclgcpoaaDoor
open Go.RowKit
set_option linter.unusedSimpArgs false

end Go.Proofs.YtpdnnpnclgcpoaaDoor

/- The law of StoreOk: its walk; rows of numbers and of truths that came in. -/
namespace Go.Proofs.YtpdnnpnclgcpoaaDoor
open Go.ChangeShapes Go.WideShapes Go.ChangeAt Go.RowKit
set_option linter.unusedSimpArgs false

/-- A row of numbers of any length that a machine has. -/
def IntsA (w : World) (a : Option Addr) (xs : List Int) : Prop := xs.length ≤ 9223372036854775807 ∧ (xs.length = 0 ∨ ∃ cb co, a = some ⟨cb, co, none⟩ ∧ ∀ i, (h : i < xs.length) → w.cell? ⟨cb, co + i, none⟩ = some (.int .i64 xs[i]))
theorem Ints.ofA {w : World} {a : Option Addr} {xs : List Int} (h : IntsA w a xs) (hl : (xs.length : Int) ≤ 1048576) : Ints w a xs := ⟨by omega, h.2⟩
theorem openI {H : Type} {enc : TypeId × Value → H} {W : World} {fuel : Nat} {v : Value} {y : DataW H × List MemPlace} (h : DataW.trod enc Tryd.prog W 0 (fun _ => true) true fuel 31 [v] = some y) : ∃ a cap xs, v = .slice a (List.length xs) cap ∧ IntsA W a xs := by
  rcases Deep.open_slice1 Tryd.underlying31 (by kernel_rfl) h with ⟨hcs, _⟩ | ⟨a, len, cap, m, n, V, D, Pl, hcs, _, hl, hm, hmm, _, hx⟩
  · simp at hcs
    subst hcs
    exact ⟨none, 0, [], rfl, by simp, .inl rfl⟩
  · simp at hcs hmm
    subst hcs hmm
    have ml : maxLen ≤ 9223372036854775807 := by decide
    have each : ∀ i, i < len → ∃ q : Int, V i = .int .i64 q := fun i hi => by
      have h1 := (hx i (by omega)).2
      obtain ⟨k, e2, _⟩ := DataW.trod_int Tryd.underlying2 h1
      exact ⟨k, by simpa using e2⟩
    obtain ⟨Q, hQ⟩ := Deep.choose_lt each
    refine ⟨some a, m, (List.range len).map Q, by simp, by simp; omega, ?_⟩
    by_cases h0 : len = 0
    · exact .inl (by simp [h0])
    · have c0 := (hx 0 (by omega)).1
      have ea := addr_none c0
      refine .inr ⟨a.block, a.off, by rw [← ea], fun i hi => ?_⟩
      simp at hi
      have c := (hx i (by omega)).1
      rw [ea, Addr.add_lit, hQ i (by omega)] at c
      simpa using c
/-- A row of truths of any length that a machine has. -/
def BoolsA (w : World) (a : Option Addr) (xs : List Bool) : Prop := xs.length ≤ 9223372036854775807 ∧ (xs.length = 0 ∨ ∃ cb co, a = some ⟨cb, co, none⟩ ∧ ∀ i, (h : i < xs.length) → w.cell? ⟨cb, co + i, none⟩ = some (.bool xs[i]))
theorem Bools.ofA {w : World} {a : Option Addr} {xs : List Bool} (h : BoolsA w a xs) (hl : (xs.length : Int) ≤ 1048576) : Bools w a xs := ⟨by omega, h.2⟩
theorem openB {H : Type} {enc : TypeId × Value → H} {W : World} {fuel : Nat} {v : Value} {y : DataW H × List MemPlace} (h : DataW.trod enc Tryd.prog W 0 (fun _ => true) true fuel 32 [v] = some y) : ∃ a cap xs, v = .slice a (List.length xs) cap ∧ BoolsA W a xs := by
  rcases Deep.open_slice1 Tryd.underlying32 (by kernel_rfl) h with ⟨hcs, _⟩ | ⟨a, len, cap, m, n, V, D, Pl, hcs, _, hl, hm, hmm, _, hx⟩
  · simp at hcs
    subst hcs
    exact ⟨none, 0, [], rfl, by simp, .inl rfl⟩
  · simp at hcs hmm
    subst hcs hmm
    have ml : maxLen ≤ 9223372036854775807 := by decide
    have each : ∀ i, i < len → ∃ q : Bool, V i = .bool q := fun i hi => by
      have h1 := (hx i (by omega)).2
      exact openT h1
    obtain ⟨Q, hQ⟩ := Deep.choose_lt each
    refine ⟨some a, m, (List.range len).map Q, by simp, by simp; omega, ?_⟩
    by_cases h0 : len = 0
    · exact .inl (by simp [h0])
    · have c0 := (hx 0 (by omega)).1
      have ea := addr_none c0
      refine .inr ⟨a.block, a.off, by rw [← ea], fun i hi => ?_⟩
      simp at hi
      have c := (hx i (by omega)).1
      rw [ea, Addr.add_lit, hQ i (by omega)] at c
      simpa using c
theorem openJ {H : Type} {enc : TypeId × Value → H} {W : World} {fuel : Nat} {v : Value} {y : DataW H × List MemPlace} (h : DataW.trod enc Tryd.prog W 0 (fun _ => true) true fuel 33 [v] = some y) : ∃ a cap xs, v = .slice a (List.length xs) cap ∧ MatsA W a xs := by
  rcases Deep.open_slice1 Tryd.underlying33 (by kernel_rfl) h with ⟨hcs, _⟩ | ⟨a, len, cap, m, n, V, D, Pl, hcs, _, hl, hm, hmm, _, hx⟩
  · simp at hcs
    subst hcs
    exact ⟨none, 0, [], rfl, by simp, fun i hi => by simp at hi, .inl rfl⟩
  · simp at hcs hmm
    subst hcs hmm
    have ml : maxLen ≤ 9223372036854775807 := by decide
    have each : ∀ i, i < len → ∃ q : Option Addr × Nat × List Int, V i = .slice q.1 q.2.2.length q.2.1 ∧ IntsA W q.1 q.2.2 := fun i hi => by
      obtain ⟨b, c, xs, e1, e2⟩ := openI (hx i (by omega)).2
      exact ⟨(b, c, xs), e1, e2⟩
    obtain ⟨Q, hQ⟩ := Deep.choose_lt each
    refine ⟨some a, m, (List.range len).map fun i => (Q i).2.2, by simp, by simp; omega, fun i hi => ?_, ?_⟩
    · simp at hi
      have := (hQ i (by omega)).2.1
      simpa using this
    · by_cases h0 : len = 0
      · exact .inl (by simp [h0])
      · have c0 := (hx 0 (by omega)).1
        have ea := addr_none c0
        refine .inr ⟨a.block, a.off, by rw [← ea], fun i hi => ?_⟩
        simp at hi
        have c := (hx i (by omega)).1
        rw [ea, Addr.add_lit, (hQ i (by omega)).1] at c
        have d := (hQ i (by omega)).2.2
        exact ⟨(Q i).1, (Q i).2.1, by simpa using c, by simpa using d⟩
end Go.Proofs.YtpdnnpnclgcpoaaDoor

