/- Joined bounds: the specification's function. -/
import Derived.Test.YtoipaejbkcdioaaDoorJoiF
namespace Go.Proofs.YtoipaejbkcdioaaDoor
open Go.RowKit
set_option linter.unusedSimpArgs false
set_option linter.unusedVariables false

theorem jn_jm (xs ys : List (Int × Int)) (h : ∀ k, (h : k < xs.length) → xs[k].1 ≤ xs[k].2) (h2 : ∀ k, (h : k < ys.length) → ys[k].1 ≤ ys[k].2) : List.zipWith jn xs ys = List.zipWith jm xs ys := by
  apply List.ext_getElem
  · simp
  · intro k k1 k2
    rw [List.length_zipWith] at k1
    rw [List.getElem_zipWith, List.getElem_zipWith]
    unfold jn jm joinL joinH
    rw [if_pos ⟨h k (by omega), h2 k (by omega)⟩, if_pos ⟨h k (by omega), h2 k (by omega)⟩]
theorem env_ivs {vs fs : List ByteArray} {rs : List (ByteArray × Int)} {li : Bool} {xs ys : List (Int × Int)} (h : envB vs fs rs li xs ys = true) (hl : li = true) : (∀ k, (h : k < xs.length) → xs[k].1 ≤ xs[k].2) ∧ (∀ k, (h : k < ys.length) → ys[k].1 ≤ ys[k].2) := by
  unfold envB at h
  rw [Bool.and_eq_true] at h
  have h2 := of_decide_eq_true h.2
  rcases h2 with ⟨h3, _⟩ | ⟨_, _, _, h5⟩
  · rw [hl] at h3; cases h3
  · refine ⟨fun k hk => ?_, fun k hk => ?_⟩
    · have q := h5 k (by rw [List.length_append]; omega)
      rw [List.getElem_append_left hk] at q
      exact q
    · have q := h5 (xs.length + k) (by rw [List.length_append]; omega)
      rw [List.getElem_append_right (by omega)] at q
      simpa using q
theorem joi_js {vs fs : List ByteArray} {rs : List (ByteArray × Int)} {li lj : Bool} {xs ys xs2 ys2 : List (Int × Int)} (h : envB vs fs rs li xs ys = true) (h2 : envB vs fs rs lj xs2 ys2 = true) : joiL vs fs rs li xs ys lj xs2 ys2 = (li || lj) ∧ joiV vs fs rs li xs ys lj xs2 ys2 = jsV li lj xs ys xs2 ys2 := by
  unfold joiL joiV
  rw [h, h2]
  refine ⟨by simp, ?_⟩
  cases li
  · simp [jsV]
  · cases lj
    · simp [jsV]
    · have a := env_ivs h rfl
      have b := env_ivs h2 rfl
      simp [jsV, jn_jm xs xs2 a.1 b.1, jn_jm ys ys2 a.2 b.2]
set_option maxRecDepth 20000 in
set_option maxHeartbeats 4000000 in
theorem sEnvJoin_c (a1 a2 a3 : Option Addr) (c1 c2 c3 : Nat) (vs fs : List ByteArray) (rs : List (ByteArray × Int)) (li : Bool) (e1 e2 : Option Addr) (d1 d2 : Nat) (xs ys : List (Int × Int)) (lj : Bool) (e3 e4 : Option Addr) (d3 d4 : Nat) (xs2 ys2 : List (Int × Int)) (w : World) (hv : Strs w a1 vs) (hf : Strs w a2 fs) (hr : Arrs w a3 rs)
    (hz : ∀ x ∈ namesOf vs fs rs, x.size ≤ 1048576) (hx : Ivs w e1 xs) (hy : Ivs w e2 ys) (hx2 : Ivs w e3 xs2) (hy2 : Ivs w e4 ys2) :
    Calls Tryd.prog 18 #[.agg #[.slice a1 vs.length c1, .slice a2 fs.length c2, .slice a3 rs.length c3], .agg #[.bool li, .slice e1 xs.length d1, .slice e2 ys.length d2], .agg #[.bool lj, .slice e3 xs2.length d3, .slice e4 ys2.length d4]] w
    fun e w' => ∃ oa ca ob cb, e = .returned (.agg #[.bool (joiL vs fs rs li xs ys lj xs2 ys2), .slice oa (joiV vs fs rs li xs ys lj xs2 ys2).1.length ca, .slice ob (joiV vs fs rs li xs ys lj xs2 ys2).2.length cb]) ∧ RowsE w' w.heap.size oa ca ob cb (joiV vs fs rs li xs ys lj xs2 ys2).1 (joiV vs fs rs li xs ys lj xs2 ys2).2 ∧ Below w.heap.size w w' := by
  have HV := hide hv
  have HF := hide hf
  have HR := hide hr
  have HZ := hide hz
  have HX := hide hx
  have HY := hide hy
  have HX2 := hide hx2
  have HY2 := hide hy2
  have HB := hide (Q5.new w (.slice a1 vs.length c1) (.slice a2 fs.length c2) (.slice a3 rs.length c3) (.bool li) (.slice e1 xs.length d1) (.slice e2 ys.length d2) (.bool lj) (.slice e3 xs2.length d3) (.slice e4 ys2.length d4) 27 30 30 30)
  clear hv hf hr hz hx hy hx2 hy2
  go_enter Tryd.func18, Tryd.ntmps18
  go_wp2_with fail
  generalize (((w.alloc (Obj.cells #[.slice a1 vs.length c1, .slice a2 fs.length c2, .slice a3 rs.length c3] 27)).alloc (Obj.cells #[.bool li, .slice e1 xs.length d1, .slice e2 ys.length d2] 30)).alloc (Obj.cells #[.bool lj, .slice e3 xs2.length d3, .slice e4 ys2.length d4] 30)).alloc (Obj.cells #[.bool false, .slice none 0 0, .slice none 0 0] 30) = u at HB ⊢
  refine (sEnvOk_c a1 a2 a3 c1 c2 c3 vs fs rs li e1 e2 d1 d2 xs ys _ ((unhide HV).call (unhide HB).bel) ((unhide HF).call (unhide HB).bel) ((unhide HR).call (unhide HB).bel) (unhide HZ) ((unhide HX).call (unhide HB).bel) ((unhide HY).call (unhide HB).bel)).mono ?_
  rintro e u1 ⟨rfl, kb⟩
  have HB := hide ((unhide HB).call kb)
  clear kb
  have r0 := (unhide HB).2.1
  have r1 := (unhide HB).2.2.1
  have r2 := (unhide HB).2.2.2.1
  have f0 := (unhide HB).2.2.2.2 0
  have f1 := (unhide HB).2.2.2.2 1
  have f2 := (unhide HB).2.2.2.2 2
  cases h1 : envB vs fs rs li xs ys
  · have HN := hide (show joiL vs fs rs li xs ys lj xs2 ys2 = false ∧ joiV vs fs rs li xs ys lj xs2 ys2 = ([], []) by unfold joiL joiV; rw [h1]; simp)
    clear h1
    go_wp2
    rw [(unhide HN).1, (unhide HN).2]
    exact bodyPost_ret (v := .agg #[.bool false, .slice none 0 0, .slice none 0 0]) (by simp [results, Tryd.results18, go_sem, r0, r1, r2]) rfl ⟨none, 0, none, 0, rfl, rows_nil _ _, (((unhide HB).bel.setCell (by first | exact Nat.le_add_right _ _ | (simp; done) | (simp; omega)) _).setCell (by first | exact Nat.le_add_right _ _ | (simp; done) | (simp; omega)) _).setCell (by first | exact Nat.le_add_right _ _ | (simp; done) | (simp; omega)) _⟩
  have H1 := hide h1
  clear h1
  have p0 := (unhide HB).1.1.1
  have p1 := (unhide HB).1.1.2.1
  have p2 := (unhide HB).1.1.2.2.1
  have s0 := (unhide HB).1.2.2.1.1
  have s1 := (unhide HB).1.2.2.1.2.1
  have s2 := (unhide HB).1.2.2.1.2.2.1
  clear r0 r1 r2 f0 f1 f2
  go_wp2_with fail
  refine (sEnvOk_c a1 a2 a3 c1 c2 c3 vs fs rs lj e3 e4 d3 d4 xs2 ys2 _ ((unhide HV).call (unhide HB).bel) ((unhide HF).call (unhide HB).bel) ((unhide HR).call (unhide HB).bel) (unhide HZ) ((unhide HX2).call (unhide HB).bel) ((unhide HY2).call (unhide HB).bel)).mono ?_
  rintro e u2 ⟨rfl, kb⟩
  have HB := hide ((unhide HB).call kb)
  clear kb p0 p1 p2 s0 s1 s2
  have r0 := (unhide HB).2.1
  have r1 := (unhide HB).2.2.1
  have r2 := (unhide HB).2.2.2.1
  have f0 := (unhide HB).2.2.2.2 0
  have f1 := (unhide HB).2.2.2.2 1
  have f2 := (unhide HB).2.2.2.2 2
  have q0 := (unhide HB).1.2.1.1
  cases h2 : envB vs fs rs lj xs2 ys2
  · have HN := hide (show joiL vs fs rs li xs ys lj xs2 ys2 = false ∧ joiV vs fs rs li xs ys lj xs2 ys2 = ([], []) by unfold joiL joiV; rw [h2]; simp)
    clear h2
    go_wp2
    rw [(unhide HN).1, (unhide HN).2]
    exact bodyPost_ret (v := .agg #[.bool false, .slice none 0 0, .slice none 0 0]) (by simp [results, Tryd.results18, go_sem, r0, r1, r2]) rfl ⟨none, 0, none, 0, rfl, rows_nil _ _, (((unhide HB).bel.setCell (by first | exact Nat.le_add_right _ _ | (simp; done) | (simp; omega)) _).setCell (by first | exact Nat.le_add_right _ _ | (simp; done) | (simp; omega)) _).setCell (by first | exact Nat.le_add_right _ _ | (simp; done) | (simp; omega)) _⟩
  have H2 := hide h2
  clear h2
  have HN := hide (joi_js (unhide H1) (unhide H2))
  have HS := hide (And.intro (env_small (unhide H1)) (env_small (unhide H2)))
  have HE := hide (env_lens (unhide H1) (unhide H2))
  clear r0 r1 r2 f0 f1 f2 q0
  have q0 := (unhide HB).1.2.1.1
  have q1 := (unhide HB).1.2.1.2.1
  have q2 := (unhide HB).1.2.1.2.2.1
  have s0 := (unhide HB).1.2.2.1.1
  have s1 := (unhide HB).1.2.2.1.2.1
  have s2 := (unhide HB).1.2.2.1.2.2.1
  have z3 : w.heap.size + 3 < u2.heap.size := (unhide HB).2.lt
  go_wp2_with fail
  refine (l6Join_c li e1 e2 d1 d2 xs ys lj e3 e4 d3 d4 xs2 ys2 _ ((unhide HX).call (unhide HB).bel) ((unhide HY).call (unhide HB).bel) ((unhide HX2).call (unhide HB).bel) ((unhide HY2).call (unhide HB).bel) (by have := unhide HS; omega) (fun g1 g2 => by have a := (unhide HE) g1 g2; have b := unhide HS; omega)).mono ?_
  rintro e u3 ⟨oa, ca, ob, cb, rfl, hrows, kb⟩
  have HB := hide ((unhide HB).call kb)
  have HRW := hide hrows
  clear kb hrows q0 q1 q2 s0 s1 s2
  have r0 := (unhide HB).2.1
  have r1 := (unhide HB).2.2.1
  have r2 := (unhide HB).2.2.2.1
  have f0 := (unhide HB).2.2.2.2 0
  have f1 := (unhide HB).2.2.2.2 1
  have f2 := (unhide HB).2.2.2.2 2
  go_wp2
  rw [(unhide HN).1, (unhide HN).2]
  exact bodyPost_ret (v := .agg #[.bool (li || lj), .slice oa (jsV li lj xs ys xs2 ys2).1.length ca, .slice ob (jsV li lj xs ys xs2 ys2).2.length cb]) (by simp [results, Tryd.results18, go_sem, r0, r1, r2]) rfl ⟨oa, ca, ob, cb, rfl, ((((unhide HRW).set (b := w.heap.size + 3) z3).set (b := w.heap.size + 3) z3).set (b := w.heap.size + 3) z3).down (B' := w.heap.size) (by omega), (((unhide HB).bel.setCell (by first | exact Nat.le_add_right _ _ | (simp; done) | (simp; omega)) _).setCell (by first | exact Nat.le_add_right _ _ | (simp; done) | (simp; omega)) _).setCell (by first | exact Nat.le_add_right _ _ | (simp; done) | (simp; omega)) _⟩
end Go.Proofs.YtoipaejbkcdioaaDoor
