/- Texts that go together: EnvD, EnvE, StoH. -/
import Derived.Test.YtpdnnpnclgcpoaaDoorHaZ
import Derived.Test.YtpdnnpnclgcpoaaDoorApZ
import Derived.Test.YtpdnnpnclgcpoaaDoorIvX
/- Bounds: all their intervals in one row, as the specification gathers them. -/
namespace Go.Proofs.YtpdnnpnclgcpoaaDoor
open Go.RowKit
set_option linter.unusedSimpArgs false

def cellsV (l : List (Int × Int)) : List Value := l.flatMap fun p => [.int .i64 p.1, .int .i64 p.2]
theorem cellsV_len (l : List (Int × Int)) : (cellsV l).length = l.length * 2 := by
  induction l with
  | nil => rfl
  | cons p l ih => show (cellsV l).length + 2 = _; rw [ih, List.length_cons]; omega
theorem cellsV_one (l : List (Int × Int)) : ∀ u ∈ cellsV l, u.oneCell' = true := by
  intro u hu
  obtain ⟨x, _, hx⟩ := List.mem_flatMap.1 hu
  simp at hx
  rcases hx with rfl | rfl <;> rfl
theorem cellsV_app (l m : List (Int × Int)) : cellsV (l ++ m) = cellsV l ++ cellsV m := by simp [cellsV]
theorem cellsV_at (l : List (Int × Int)) : ∀ i, (h : i < l.length) → (cellsV l)[i * 2]? = some (.int .i64 l[i].1) ∧ (cellsV l)[i * 2 + 1]? = some (.int .i64 l[i].2) := by
  induction l with
  | nil => intro i h; cases h
  | cons p l ih =>
    intro i h
    have e : cellsV (p :: l) = .int .i64 p.1 :: .int .i64 p.2 :: cellsV l := rfl
    rw [e]
    cases i with
    | zero => exact ⟨rfl, rfl⟩
    | succ i =>
      have k := ih i (by simpa using h)
      rw [show (i + 1) * 2 = i * 2 + 1 + 1 by omega]
      exact k
theorem Ivs.news {w : World} {a : Option Addr} {xs : List (Int × Int)} (h : Ivs w a xs) : NewsO w a (cellsV xs) := by
  rcases h.2 with h0 | ⟨cb, co, rfl, hc⟩
  · exact .inl (List.eq_nil_of_length_eq_zero (by rw [cellsV_len]; omega))
  refine .inr ⟨_, rfl, fun j u hu => ?_⟩
  have hadd : (⟨cb, co, none⟩ : Addr).add j = ⟨cb, co + j, none⟩ := by unfold Addr.add; split <;> simp_all
  rw [hadd]
  have hj : j < (cellsV xs).length := (List.getElem?_eq_some_iff.1 hu).1
  rw [cellsV_len] at hj
  have hi : j / 2 < xs.length := by omega
  have c := hc (j / 2) hi
  have d := cellsV_at xs (j / 2) hi
  by_cases q : j % 2 = 0
  · have ej : j / 2 * 2 = j := by omega
    rw [ej] at c d
    rw [c.1]
    rw [d.1] at hu
    exact hu
  · have ej : j / 2 * 2 + 1 = j := by omega
    have ej2 : co + j / 2 * 2 + 1 = co + j := by omega
    rw [ej2] at c
    rw [ej] at d
    rw [c.2]
    rw [d.2] at hu
    exact hu
theorem Ivs.ofOwn {w : World} {base : Nat} {oa : Option Addr} {n cap : Nat} {xs : List (Int × Int)} (h : w.ownsRow base 81 2 (.slice oa n cap) n (cellsV xs)) (hl : n ≤ 1048576) : n = xs.length ∧ Ivs w oa xs := by
  have hn : n = xs.length := by have := h.1; rw [cellsV_len] at this; omega
  refine ⟨hn, by omega, ?_⟩
  rcases h.2 with ⟨_, h1⟩ | ⟨g, cap', cur, hv, _⟩
  · exact .inl (by omega)
  · cases hv
    refine .inr ⟨g, 0, rfl, fun i hi => ?_⟩
    have d := cellsV_at xs i hi
    have hadd : ∀ j, (⟨g, 0, none⟩ : Addr).add j = ⟨g, j, none⟩ := fun j => by unfold Addr.add; split <;> simp_all
    have k1 := h.cells (g := g) rfl (i * 2) _ d.1
    have k2 := h.cells (g := g) rfl (i * 2 + 1) _ d.2
    rw [hadd] at k1 k2
    rw [Nat.zero_add]
    exact ⟨k1, k2⟩
theorem rowV (w : World) (base : Nat) (h : base ≤ w.heap.size) : (w.alloc (Obj.cells #[] 81)).ownsRow base 81 2 (.slice (some ⟨w.heap.size, 0, none⟩) 0 0) 0 [] :=
  ⟨rfl, .inr ⟨w.heap.size, 0, #[], rfl, h, heap_alloc_new w _, Nat.le_refl _, by unfold maxLen; omega, rfl, rfl⟩⟩
/-- What stays while intervals are gathered. -/
@[reducible] def SE (w0 : World) (x y z : Value) (w : World) : Prop := w.cell? ⟨w0.heap.size, 1, none⟩ = some y ∧ w.cell? ⟨w0.heap.size, 2, none⟩ = some z ∧ C3 w w0.heap.size x y z ∧ Below w0.heap.size w0 w ∧ w0.heap.size + 1 ≤ w.heap.size
theorem SE.of {w0 w : World} {x y z : Value} (h : C3 w w0.heap.size x y z) (k : Below w0.heap.size w0 w) : SE w0 x y z w := ⟨h.2.1, h.2.2.1, h, k, h.lt⟩
theorem SE.drew {w0 w : World} {x y z : Value} (h : SE w0 x y z w) : SE w0 x y z w.drew := SE.of ⟨h.2.2.1.1, h.2.2.1.2.1, h.2.2.1.2.2.1, h.2.2.1.2.2.2⟩ h.2.2.2.1.drew
theorem SE.alloc {w0 w : World} {x y z : Value} (h : SE w0 x y z w) (o : Obj) : SE w0 x y z (w.alloc o) := SE.of (h.2.2.1.alloc o) (h.2.2.2.1.alloc h.2.2.2.1.size o)
theorem SE.grown {w0 w w1 : World} {x y z v : Value} {e : TypeId} {size n : Nat} {xs : List Value} (h : SE w0 x y z w) (ho : w.ownsRow (w0.heap.size + 1) e size v n xs) (hg : w.grownBy w1 v.ownBlock) : SE w0 x y z w1 :=
  SE.of (h.2.2.1.grown hg (fun e => by have := (ho.lt _ e.symm).1; omega)) (h.2.2.2.1.grown hg h.2.2.2.1.size (fun j hj => by have := (ho.lt j hj).1; omega))
set_option maxHeartbeats 2000000 in
theorem l6List_c (li : Bool) (e1 e2 : Option Addr) (c1 c2 : Nat) (xs ys : List (Int × Int)) (w : World) (hx : Ivs w e1 xs) (hy : Ivs w e2 ys) (hl : xs.length + ys.length ≤ 1000) :
    Calls Tryd.prog 74 #[.agg #[.bool li, .slice e1 xs.length c1, .slice e2 ys.length c2]] w fun e w' => ∃ oa cap, e = .returned (.slice oa (xs.length + ys.length) cap) ∧ Ivs w' oa (xs ++ ys) ∧ Below w.heap.size w w' := by
  have HX := hide hx
  have HY := hide hy
  have HT0 := hide (C3.new w (.bool li) (.slice e1 xs.length c1) (.slice e2 ys.length c2) 43)
  have HK := hide ((Below.refl _ w).alloc (Nat.le_refl _) (Obj.cells #[.bool li, .slice e1 xs.length c1, .slice e2 ys.length c2] 43))
  clear hx hy
  obtain ⟨inf, hi, hz0, hz1, hz2⟩ := info_parts ivInfo
  go_enter Tryd.func74, Tryd.ntmps74
  go_wp2
  generalize w.alloc (Obj.cells #[.bool li, .slice e1 xs.length c1, .slice e2 ys.length c2] 43) = u at HT0 HK ⊢
  have hs := SE.of (unhide HT0) (unhide HK)
  go_region_held3 (SE w (.bool li) (.slice e1 xs.length c1) (.slice e2 ys.length c2))
    (first | exact SE.drew (by assumption) | exact SE.alloc (by assumption) _ | exact hs2 | exact hs3)
    (first
      | (refine step_appO _ (by rfl) _ _ _ (by rfl) (w.heap.size + 1) 81 inf (.agg #[.int .i64 0, .int .i64 0]) 2 16 Tryd.underlying41 hi hz0 hz1 hz2 rfl (by decide) _ _ _ (by rfl) (rowV _ _ (by exact hs.2.2.2.2)) e1 xs.length c1 (cellsV xs) (by rfl) (cellsV_len _) (((unhide HX).call (hs.drew.alloc _).2.2.2.1).news) (cellsV_one _) (by unfold maxLen; omega) (by omega) (by exact (hs.drew.alloc _).2.2.2.2) ?_; intro oa cap w1 hown hgrow; have hs2 := SE.grown (hs.drew.alloc _) (rowV _ _ (by exact hs.2.2.2.2)) hgrow)
      | (refine step_appO _ (by rfl) _ _ _ (by rfl) (w.heap.size + 1) 81 inf (.agg #[.int .i64 0, .int .i64 0]) 2 16 Tryd.underlying41 hi hz0 hz1 hz2 rfl (by decide) _ _ _ (by rfl) hown e2 ys.length c2 (cellsV ys) (by rfl) (cellsV_len _) (((unhide HY).call hs2.2.2.2.1).news) (cellsV_one _) (by unfold maxLen; omega) (by omega) hs2.2.2.2.2 ?_; intro ob cap2 w2 hown2 hgrow2; have hs3 := SE.grown hs2 hown hgrow2))
  have HO := hide (show Ivs w2 ob (xs ++ ys) by
    rw [List.nil_append, ← cellsV_app] at hown2
    exact (Ivs.ofOwn hown2 (by omega)).2)
  have HB := hide hs3.2.2.2.1
  clear HT0 HK hs hs2 hs3 hown hown2 hgrow hgrow2
  rename_i hHeld
  clear hHeld
  simp only [Nat.zero_add]
  go_wp2
  go_ret
  exact ⟨_, _, rfl, unhide HO, unhide HB⟩
end Go.Proofs.YtpdnnpnclgcpoaaDoor

/- Right bounds, as the specification asks for them. -/
namespace Go.Proofs.YtpdnnpnclgcpoaaDoor
open Go.RowKit
set_option linter.unusedSimpArgs false

def ivsP (l : List (Int × Int)) : Prop := ∀ k, (h : k < l.length) → l[k].1 ≤ l[k].2
instance (l : List (Int × Int)) : Decidable (ivsP l) := by unfold ivsP; infer_instance
/-- Right bounds of a declaration that is right. -/
def fitP (m n : Nat) (li : Bool) (xs ys : List (Int × Int)) : Prop := (li = false ∧ xs.length = 0 ∧ ys.length = 0) ∨ (li = true ∧ xs.length = m ∧ ys.length = n ∧ ivsP (xs ++ ys))
instance (m n : Nat) (li : Bool) (xs ys : List (Int × Int)) : Decidable (fitP m n li xs ys) := by unfold fitP; infer_instance
def fitB (m n : Nat) (li : Bool) (xs ys : List (Int × Int)) : Bool := decide (fitP m n li xs ys)
/-- Whether the declaration is right, and the bounds are some of it. -/
def envB (vs fs : List ByteArray) (rs : List (ByteArray × Int)) (li : Bool) (xs ys : List (Int × Int)) : Bool := declB vs fs rs && fitB vs.length rs.length li xs ys
theorem declB_len {vs fs : List ByteArray} {rs : List (ByteArray × Int)} (h : declB vs fs rs = true) : vs.length ≤ 5 ∧ fs.length ≤ 3 ∧ rs.length ≤ 2 := by
  have := of_decide_eq_true h
  exact ⟨this.1, this.2.1, this.2.2.1⟩
theorem fit_false {m n : Nat} {xs ys : List (Int × Int)} : fitB m n false xs ys = decide (xs.length = 0 ∧ ys.length = 0) := by
  unfold fitB fitP
  apply decide_eq_decide.2
  simp
theorem fit_len {m n : Nat} {xs ys : List (Int × Int)} (h : ¬ (xs.length = m ∧ ys.length = n)) : fitB m n true xs ys = false := by
  apply decide_eq_false
  rintro (⟨h1, _⟩ | ⟨_, h1, h2, _⟩)
  · cases h1
  · exact h ⟨h1, h2⟩
theorem fit_true {m n : Nat} {xs ys : List (Int × Int)} (h1 : xs.length = m) (h2 : ys.length = n) : fitB m n true xs ys = decide (ivsP (xs ++ ys)) := by
  unfold fitB fitP
  apply decide_eq_decide.2
  simp [h1, h2]
set_option maxRecDepth 20000 in
set_option maxHeartbeats 4000000 in
theorem sEnvOk_c (a1 a2 a3 : Option Addr) (c1 c2 c3 : Nat) (vs fs : List ByteArray) (rs : List (ByteArray × Int)) (li : Bool) (e1 e2 : Option Addr) (d1 d2 : Nat) (xs ys : List (Int × Int)) (w : World) (hv : Strs w a1 vs) (hf : Strs w a2 fs) (hr : Arrs w a3 rs)
    (hz : ∀ x ∈ namesOf vs fs rs, x.size ≤ 1048576) (hx : Ivs w e1 xs) (hy : Ivs w e2 ys) :
    Calls Tryd.prog 29 #[.agg #[.slice a1 vs.length c1, .slice a2 fs.length c2, .slice a3 rs.length c3], .agg #[.bool li, .slice e1 xs.length d1, .slice e2 ys.length d2]] w
    fun e w' => e = .returned (.bool (envB vs fs rs li xs ys)) ∧ Below w.heap.size w w' := by
  have HV := hide hv
  have HF := hide hf
  have HR := hide hr
  have HZ := hide hz
  have HX := hide hx
  have HY := hide hy
  have T0 := (C3.new w (.slice a1 vs.length c1) (.slice a2 fs.length c2) (.slice a3 rs.length c3) 27).alloc (Obj.cells #[.bool li, .slice e1 xs.length d1, .slice e2 ys.length d2] 43)
  have T1 := C3.new (w.alloc (Obj.cells #[.slice a1 vs.length c1, .slice a2 fs.length c2, .slice a3 rs.length c3] 27)) (.bool li) (.slice e1 xs.length d1) (.slice e2 ys.length d2) 43
  have K0 : Below w.heap.size w ((w.alloc (Obj.cells #[.slice a1 vs.length c1, .slice a2 fs.length c2, .slice a3 rs.length c3] 27)).alloc (Obj.cells #[.bool li, .slice e1 xs.length d1, .slice e2 ys.length d2] 43)) := ((Below.refl _ _).alloc (Nat.le_refl _) _).alloc (by simp) _
  rw [show (w.alloc (Obj.cells #[.slice a1 vs.length c1, .slice a2 fs.length c2, .slice a3 rs.length c3] 27)).heap.size = w.heap.size + 1 by simp] at T1
  have HT0 := hide T0
  have HT1 := hide T1
  have HK := hide K0
  clear T0 T1 K0 hv hf hr hz hx hy
  go_enter Tryd.func29, Tryd.ntmps29
  go_wp2_with fail
  generalize (w.alloc (Obj.cells #[.slice a1 vs.length c1, .slice a2 fs.length c2, .slice a3 rs.length c3] 27)).alloc (Obj.cells #[.bool li, .slice e1 xs.length d1, .slice e2 ys.length d2] 43) = u at HT0 HT1 HK ⊢
  refine (sDeclOk_c a1 a2 a3 _ _ _ vs fs rs _ ((unhide HV).call (unhide HK)) ((unhide HF).call (unhide HK)) ((unhide HR).call (unhide HK)) (unhide HZ)).mono ?_
  rintro e u1 ⟨rfl, kb⟩
  have HT0 := hide ((unhide HT0).call kb)
  have HT1 := hide ((unhide HT1).call kb)
  have HK := hide ((unhide HK).trans (kb.mono (unhide HK).size))
  clear kb
  have HE := hide (show envB vs fs rs li xs ys = (declB vs fs rs && fitB vs.length rs.length li xs ys) from rfl)
  cases hd : declB vs fs rs
  · rw [hd] at HE
    go_wp2
    go_ret
    exact ⟨by rw [unhide HE]; rfl, unhide HK⟩
  rw [hd] at HE
  obtain ⟨hl1, hl2, hl3⟩ := declB_len hd
  clear hd hl2
  have b0 := (unhide HT0).1
  have b2 := (unhide HT0).2.2.1
  have t0 := (unhide HT1).1
  have t1 := (unhide HT1).2.1
  have t2 := (unhide HT1).2.2.1
  cases li
  · rw [fit_false, Bool.true_and] at HE
    by_cases g1 : xs.length = 0
    · by_cases g2 : ys.length = 0
      · rw [decide_eq_true (⟨g1, g2⟩ : xs.length = 0 ∧ ys.length = 0)] at HE
        rw [g1] at t1 ⊢
        rw [g2] at t2 ⊢
        clear g1 g2
        go_wp2
        go_ret
        exact ⟨by rw [unhide HE]; rfl, unhide HK⟩
      · rw [decide_eq_false (fun h : xs.length = 0 ∧ ys.length = 0 => g2 h.2)] at HE
        rw [g1] at t1 ⊢
        clear g1
        have g3 : ((ys.length : Int) == 0) = false := by rw [beq_eq_false_iff_ne]; omega
        clear g2
        go_wp2
        go_ret
        exact ⟨by rw [unhide HE]; rfl, unhide HK⟩
    · rw [decide_eq_false (fun h : xs.length = 0 ∧ ys.length = 0 => g1 h.1)] at HE
      have g3 : ((xs.length : Int) == 0) = false := by rw [beq_eq_false_iff_ne]; omega
      clear g1
      go_wp2
      go_ret
      exact ⟨by rw [unhide HE]; rfl, unhide HK⟩
  rw [Bool.true_and] at HE
  by_cases g1 : xs.length = vs.length
  case neg =>
    have HN := hide (show envB vs fs rs true xs ys = false by rw [unhide HE]; exact fit_len (fun h => g1 h.1))
    have g3 : ((xs.length : Int) != (vs.length : Int)) = true := by rw [bne_iff_ne]; omega
    clear g1
    go_wp2
    go_ret
    exact ⟨by rw [unhide HN]; rfl, unhide HK⟩
  by_cases g2 : ys.length = rs.length
  case neg =>
    have HN := hide (show envB vs fs rs true xs ys = false by rw [unhide HE]; exact fit_len (fun h => g2 h.2))
    have g3 : ((xs.length : Int) != (vs.length : Int)) = false := by rw [bne_eq_false_iff_eq]; omega
    have g4 : ((ys.length : Int) != (rs.length : Int)) = true := by rw [bne_iff_ne]; omega
    clear g1 g2
    go_wp2
    go_ret
    exact ⟨by rw [unhide HN]; rfl, unhide HK⟩
  rw [fit_true g1 g2] at HE
  have g3 : ((xs.length : Int) != (vs.length : Int)) = false := by rw [bne_eq_false_iff_eq]; omega
  have g4 : ((ys.length : Int) != (rs.length : Int)) = false := by rw [bne_eq_false_iff_eq]; omega
  have hL : xs.length + ys.length ≤ 7 := by omega
  clear g1 g2
  go_wp2_with fail
  refine (l6List_c true e1 e2 d1 d2 xs ys _ ((unhide HX).call (unhide HK)) ((unhide HY).call (unhide HK)) (by omega)).mono ?_
  rintro e u2 ⟨oa, cap, rfl, R, kb⟩
  have HR2 := hide R
  have HK := hide ((unhide HK).trans (kb.mono (unhide HK).size))
  have HN := hide (show xs.length + ys.length = (xs ++ ys).length by rw [List.length_append])
  clear R kb b0 b2 t0 t1 t2
  generalize xs ++ ys = zs at HE HR2 HN
  generalize xs.length + ys.length = L at hL HN ⊢
  have hL' : (L : Int) ≤ 7 := by omega
  go_wp2
  go_loopw [6] (fun i wr => ∃ k : Nat, k ≤ L ∧ i = .int .i64 k ∧ (∀ j, (h : j < zs.length) → j < k → zs[j].1 ≤ zs[j].2) ∧ Below w.heap.size w wr ∧ Ivs wr oa zs) (fun i _ => L - (intOf i).toNat)
  case atStart => exact ⟨0, Nat.zero_le _, rfl, fun j _ h => by omega, unhide HK, unhide HR2⟩
  case round =>
    clear HK HR2
    obtain ⟨k, hk, rfl, hall, hb, hz⟩ := hrel
    have HA := hide hall
    have HB := hide hb
    have HS := hide hz
    by_cases hlt : k < L
    · have hk' : k < zs.length := by rw [← unhide HN]; exact hlt
      rcases hz.2 with h0 | ⟨cb, co, rfl, hc⟩
      · omega
      have c := (hc k hk').1
      have d := (hc k hk').2
      have HG := hide (show zs[k].1 ≤ zs[k].2 → ∀ j, (h : j < zs.length) → j < k + 1 → zs[j].1 ≤ zs[j].2 from fun e j h hj => by
        by_cases q : j = k
        · subst q; exact e
        · exact unhide HA j h (by omega))
      have HF1 := hide (show ¬ zs[k].1 ≤ zs[k].2 → decide (ivsP zs) = false from fun e => decide_eq_false (fun h => e (h k hk')))
      clear hc hall hb hz
      generalize zs[k].1 = x at c HG HF1
      generalize zs[k].2 = y at d HG HF1
      go_wp2_with fail
      refine (sIvOk_c _ _ _).mono ?_
      rintro e u3 ⟨rfl, kb⟩
      have HB2 := hide ((unhide HB).trans (kb.mono (unhide HB).size))
      have HS2 := hide ((unhide HS).call kb)
      clear kb c d
      cases ho : okB x y
      · have HN2 := hide (show envB vs fs rs true xs ys = false by rw [unhide HE]; exact unhide HF1 (Int.not_le.1 (of_decide_eq_false ho)))
        clear ho
        go_wp2
        go_ret
        exact ⟨by rw [unhide HN2]; rfl, unhide HB2⟩
      · have HG2 := hide (unhide HG (of_decide_eq_true ho))
        clear ho HG HF1
        go_wp2
        go_roundw
        case rel => exact ⟨k + 1, by omega, by go_num, unhide HG2, unhide HB2, unhide HS2⟩
        case measure => simp [intOf]; omega
    · have HN2 := hide (show envB vs fs rs true xs ys = true by rw [unhide HE]; exact decide_eq_true (fun j hj => unhide HA j hj (by have := unhide HN; omega)))
      clear hall hb hz
      go_wp2
      go_ret
      exact ⟨by rw [unhide HN2]; rfl, unhide HB⟩
end Go.Proofs.YtpdnnpnclgcpoaaDoor

/- Right stores, as the specification asks for them. -/
namespace Go.Proofs.YtpdnnpnclgcpoaaDoor
open Go.RowKit
set_option linter.unusedSimpArgs false

/-- A store of a declaration that is right. -/
def stoP (m n : Nat) (rs : List (ByteArray × Int)) (is : List Int) (bs : List Bool) (js : List (List Int)) : Prop := is.length = m ∧ bs.length = n ∧ js.length = rs.length ∧ ∀ k, (h : k < rs.length) → ((js.getD k []).length : Int) = rs[k].2
instance (m n : Nat) (rs : List (ByteArray × Int)) (is : List Int) (bs : List Bool) (js : List (List Int)) : Decidable (stoP m n rs is bs js) := by unfold stoP; infer_instance
def storeB (vs fs : List ByteArray) (rs : List (ByteArray × Int)) (is : List Int) (bs : List Bool) (js : List (List Int)) : Bool := declB vs fs rs && decide (stoP vs.length fs.length rs is bs js)
set_option maxRecDepth 20000 in
set_option maxHeartbeats 4000000 in
theorem sStoreOk_c (a1 a2 a3 : Option Addr) (c1 c2 c3 : Nat) (vs fs : List ByteArray) (rs : List (ByteArray × Int)) (e1 e2 e3 : Option Addr) (d1 d2 d3 : Nat) (is : List Int) (bs : List Bool) (js : List (List Int)) (w : World) (hv : Strs w a1 vs) (hf : Strs w a2 fs) (hr : Arrs w a3 rs)
    (hz : ∀ x ∈ namesOf vs fs rs, x.size ≤ 1048576) (hj : Mats w e3 js) :
    Calls Tryd.prog 42 #[.agg #[.slice a1 vs.length c1, .slice a2 fs.length c2, .slice a3 rs.length c3], .agg #[.slice e1 is.length d1, .slice e2 bs.length d2, .slice e3 js.length d3]] w
    fun e w' => e = .returned (.bool (storeB vs fs rs is bs js)) ∧ Below w.heap.size w w' := by
  have HV := hide hv
  have HF := hide hf
  have HR := hide hr
  have HZ := hide hz
  have HJ := hide hj
  have T0 := (C3.new w (.slice a1 vs.length c1) (.slice a2 fs.length c2) (.slice a3 rs.length c3) 27).alloc (Obj.cells #[.slice e1 is.length d1, .slice e2 bs.length d2, .slice e3 js.length d3] 35)
  have T1 := C3.new (w.alloc (Obj.cells #[.slice a1 vs.length c1, .slice a2 fs.length c2, .slice a3 rs.length c3] 27)) (.slice e1 is.length d1) (.slice e2 bs.length d2) (.slice e3 js.length d3) 35
  have K0 : Below w.heap.size w ((w.alloc (Obj.cells #[.slice a1 vs.length c1, .slice a2 fs.length c2, .slice a3 rs.length c3] 27)).alloc (Obj.cells #[.slice e1 is.length d1, .slice e2 bs.length d2, .slice e3 js.length d3] 35)) := ((Below.refl _ _).alloc (Nat.le_refl _) _).alloc (by simp) _
  rw [show (w.alloc (Obj.cells #[.slice a1 vs.length c1, .slice a2 fs.length c2, .slice a3 rs.length c3] 27)).heap.size = w.heap.size + 1 by simp] at T1
  have HT0 := hide T0
  have HT1 := hide T1
  have HK := hide K0
  clear T0 T1 K0 hv hf hr hz hj
  go_enter Tryd.func42, Tryd.ntmps42
  go_wp2_with fail
  generalize (w.alloc (Obj.cells #[.slice a1 vs.length c1, .slice a2 fs.length c2, .slice a3 rs.length c3] 27)).alloc (Obj.cells #[.slice e1 is.length d1, .slice e2 bs.length d2, .slice e3 js.length d3] 35) = u at HT0 HT1 HK ⊢
  refine (sDeclOk_c a1 a2 a3 _ _ _ vs fs rs _ ((unhide HV).call (unhide HK)) ((unhide HF).call (unhide HK)) ((unhide HR).call (unhide HK)) (unhide HZ)).mono ?_
  rintro e u1 ⟨rfl, kb⟩
  have HT0 := hide ((unhide HT0).call kb)
  have HT1 := hide ((unhide HT1).call kb)
  have HK := hide ((unhide HK).trans (kb.mono (unhide HK).size))
  clear kb
  have HE := hide (show storeB vs fs rs is bs js = (declB vs fs rs && decide (stoP vs.length fs.length rs is bs js)) from rfl)
  cases hd : declB vs fs rs
  · rw [hd] at HE
    go_wp2
    go_ret
    exact ⟨by rw [unhide HE]; rfl, unhide HK⟩
  rw [hd, Bool.true_and] at HE
  obtain ⟨hl1, hl2, hl3⟩ := declB_len hd
  clear hd
  have b0 := (unhide HT0).1
  have b1 := (unhide HT0).2.1
  have b2 := (unhide HT0).2.2.1
  have t0 := (unhide HT1).1
  have t1 := (unhide HT1).2.1
  have t2 := (unhide HT1).2.2.1
  by_cases g1 : is.length = vs.length
  case neg =>
    have HN := hide (show storeB vs fs rs is bs js = false by rw [unhide HE]; exact decide_eq_false (fun h => g1 h.1))
    have g4 : ((is.length : Int) != (vs.length : Int)) = true := by rw [bne_iff_ne]; omega
    clear g1
    go_wp2
    go_ret
    exact ⟨by rw [unhide HN]; rfl, unhide HK⟩
  have g4 : ((is.length : Int) != (vs.length : Int)) = false := by rw [bne_eq_false_iff_eq]; omega
  by_cases g2 : bs.length = fs.length
  case neg =>
    have HN := hide (show storeB vs fs rs is bs js = false by rw [unhide HE]; exact decide_eq_false (fun h => g2 h.2.1))
    have g5 : ((bs.length : Int) != (fs.length : Int)) = true := by rw [bne_iff_ne]; omega
    clear g1 g2
    go_wp2
    go_ret
    exact ⟨by rw [unhide HN]; rfl, unhide HK⟩
  have g5 : ((bs.length : Int) != (fs.length : Int)) = false := by rw [bne_eq_false_iff_eq]; omega
  by_cases g3 : js.length = rs.length
  case neg =>
    have HN := hide (show storeB vs fs rs is bs js = false by rw [unhide HE]; exact decide_eq_false (fun h => g3 h.2.2.1))
    have g6 : ((js.length : Int) != (rs.length : Int)) = true := by rw [bne_iff_ne]; omega
    clear g1 g2 g3
    go_wp2
    go_ret
    exact ⟨by rw [unhide HN]; rfl, unhide HK⟩
  have g6 : ((js.length : Int) != (rs.length : Int)) = false := by rw [bne_eq_false_iff_eq]; omega
  have HG := hide (show (∀ k, (h : k < rs.length) → ((js.getD k []).length : Int) = rs[k].2) → storeB vs fs rs is bs js = true from fun h => by rw [unhide HE]; exact decide_eq_true ⟨g1, g2, g3, h⟩)
  have HG2 := hide (show ∀ k, (h : k < rs.length) → ((js.getD k []).length : Int) ≠ rs[k].2 → storeB vs fs rs is bs js = false from fun k h e => by rw [unhide HE]; exact decide_eq_false (fun hh => e (hh.2.2.2 k h)))
  have HJR := hide g3
  have hJ : js.length ≤ 2 := by omega
  have hJ' : (js.length : Int) ≤ 2 := by omega
  clear g1 g2 g3 HE
  go_wp2
  clear b0 b1 t0 t1 t2 b2 g4 g5 g6
  go_loopw [5] (fun i wr => ∃ k : Nat, k ≤ js.length ∧ i = .int .i64 k ∧ (∀ j, (h : j < rs.length) → j < k → ((js.getD j []).length : Int) = rs[j].2) ∧ Below u1.heap.size u1 wr) (fun i _ => js.length - (intOf i).toNat)
  case atStart => exact ⟨0, Nat.zero_le _, rfl, fun j _ h => by omega, Below.refl _ _⟩
  case round =>
    obtain ⟨k, hk, rfl, hall, hb⟩ := hrel
    have HA := hide hall
    have HB := hide ((unhide HK).trans (hb.mono (unhide HK).size))
    have HB1 := hide hb
    have b2 := ((unhide HT0).call hb).2.2.1
    have t2 := ((unhide HT1).call hb).2.2.1
    by_cases hlt : k < js.length
    · have hr' : k < rs.length := by rw [← unhide HJR]; exact hlt
      rcases (((unhide HJ).call (unhide HB))).2 with h0 | ⟨cb, co, e, hc⟩
      · omega
      cases e
      obtain ⟨ba, bc, q1, _⟩ := hc k hlt
      rcases (((unhide HR).call (unhide HB))).2 with h0 | ⟨cb, co, e, hc2⟩
      · omega
      cases e
      have q2 := (hc2 k hr').2
      have ek : js.getD k [] = js[k] := by simp [List.getD, hlt]
      have HI := hide (show (js[k].length : Int) = rs[k].2 → ∀ j, (h : j < rs.length) → j < k + 1 → ((js.getD j []).length : Int) = rs[j].2 from fun e j h hj => by
        by_cases q : j = k
        · subst q; rw [ek]; exact e
        · exact unhide HA j h (by omega))
      have HX := hide (show (js[k].length : Int) ≠ rs[k].2 → storeB vs fs rs is bs js = false from fun e => unhide HG2 k hr' (by rw [ek]; exact e))
      have ml : js[k].length ≤ 1048576 := by
        obtain ⟨_, _, _, qi⟩ := hc k hlt
        exact qi.1
      clear hc hc2 hall hb ek
      generalize js[k].length = x at q1 HI HX ml
      generalize rs[k].2 = z at q2 HI HX
      have ml' : (x : Int) ≤ 1048576 := by omega
      by_cases hx : (x : Int) = z
      · have HI2 := hide (unhide HI hx)
        have hx2 : ((x : Int) != z) = false := by rw [bne_eq_false_iff_eq]; exact hx
        clear HI HX hx
        go_wp2
        go_quiet (fail)
        go_wp2
        go_roundw
        case rel => exact ⟨k + 1, by omega, by go_num, unhide HI2, (unhide HB1).trans ((bdrew _ _).mono (unhide HB1).size)⟩
        case measure => simp [intOf]; omega
      · have HN := hide (unhide HX hx)
        have hx2 : ((x : Int) != z) = true := by rw [bne_iff_ne]; exact hx
        clear HI HX hx
        go_wp2
        go_quiet (fail)
        go_wp2
        go_ret
        exact ⟨by rw [unhide HN]; rfl, (unhide HB).trans ((bdrew _ _).mono (unhide HB).size)⟩
    · have HN := hide (unhide HG (fun j hj => unhide HA j hj (by have := unhide HJR; omega)))
      clear hall hb
      go_wp2
      go_ret
      exact ⟨by rw [unhide HN]; rfl, unhide HB⟩
end Go.Proofs.YtpdnnpnclgcpoaaDoor

