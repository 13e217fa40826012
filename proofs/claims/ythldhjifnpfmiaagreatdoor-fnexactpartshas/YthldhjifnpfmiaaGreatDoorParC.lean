/- Parts, rows of tokens with tables: the laws' copies of them. -/
import Derived.Test.YthldhjifnpfmiaaGreatDoorTabE
import Derived.Test.YthldhjifnpfmiaaGreatDoorTkZ
namespace Go.Proofs.YthldhjifnpfmiaaGreatDoor
open Go.RowKit
set_option linter.unusedSimpArgs false

/-- Two cells of a block that may be written. -/
def C2 (u : World) (b : Nat) (x y : Value) : Prop := u.cell? ⟨b, 0, none⟩ = some x ∧ u.cell? ⟨b, 1, none⟩ = some y ∧ (∀ o, u.frozen? ⟨b, o, none⟩ = false)
theorem C2.lt {u : World} {b : Nat} {x y : Value} (h : C2 u b x y) : b < u.heap.size := World.block_lt_of_cell? u _ h.1
theorem C2.call {u v : World} {b : Nat} {x y : Value} (h : C2 u b x y) (hb : Below u.heap.size u v) : C2 v b x y := by
  have k : b < u.heap.size := h.lt
  exact ⟨(hb.cell (by exact k)).trans h.1, (hb.cell (by exact k)).trans h.2.1, fun o => (hb.frozen (by exact k)).trans (h.2.2 o)⟩
theorem C2.alloc {u : World} {b : Nat} {x y : Value} (h : C2 u b x y) (o : Obj) : C2 (u.alloc o) b x y := h.call ((Below.refl _ u).alloc (Nat.le_refl _) o)
theorem C2.set0 {u : World} {b : Nat} {x y : Value} (h : C2 u b x y) (v : Value) : C2 (u.setCell ⟨b, 0, none⟩ v) b v y := by
  refine ⟨World.cell?_setCell_same _ _ _ h.1, ?_, fun o => (World.frozen?_setCell _ _ _ _).trans (h.2.2 o)⟩
  rw [World.cell?_setCell_other _ _ _ _ (by simp)]; exact h.2.1
theorem C2.set1 {u : World} {b : Nat} {x y : Value} (h : C2 u b x y) (v : Value) : C2 (u.setCell ⟨b, 1, none⟩ v) b x v := by
  refine ⟨?_, World.cell?_setCell_same _ _ _ h.2.1, fun o => (World.frozen?_setCell _ _ _ _).trans (h.2.2 o)⟩
  rw [World.cell?_setCell_other _ _ _ _ (by simp)]; exact h.1
theorem C2.other {u : World} {b c o : Nat} {x y v : Value} (h : C2 u b x y) (hne : c ≠ b) : C2 (u.setCell ⟨c, o, none⟩ v) b x y := by
  refine ⟨?_, ?_, fun o => (World.frozen?_setCell _ _ _ _).trans (h.2.2 o)⟩
  · rw [World.cell?_setCell_other _ _ _ _ (fun e => hne (congrArg Addr.block e))]; exact h.1
  · rw [World.cell?_setCell_other _ _ _ _ (fun e => hne (congrArg Addr.block e))]; exact h.2.1
theorem C2.new (u : World) (x y : Value) (t : TypeId) : C2 (u.alloc (Obj.cells #[x, y] t)) u.heap.size x y := by
  refine ⟨?_, ?_, ?_⟩
  · unfold World.cell?; rw [heap_alloc_new]; rfl
  · unfold World.cell?; rw [heap_alloc_new]; rfl
  · intro o; unfold World.frozen?; rw [heap_alloc_new]; simp
theorem AtE.set {w : World} {g i c p : Nat} {v : Value} {e : ER} (h : AtE w g i e) (hc : c < g) : AtE (w.setCell ⟨c, p, none⟩ v) g i e := by
  obtain ⟨g1, g2, q1, q2, c1, c2, c3, o1, o2⟩ := h
  have ne : ∀ o, (w.setCell ⟨c, p, none⟩ v).cell? ⟨g, o, none⟩ = w.cell? ⟨g, o, none⟩ := fun o => World.cell?_setCell_other _ _ _ _ (fun e => by have : c = g := congrArg Addr.block e; omega)
  exact ⟨g1, g2, q1, q2, (ne _).trans c1, (ne _).trans c2, (ne _).trans c3, o1.set (by omega), o2.set (by omega)⟩
theorem OwnE.set {w : World} {b c p : Nat} {v : Value} {es : List ER} (h : OwnE w b es) (hc : c < b) : OwnE (w.setCell ⟨c, p, none⟩ v) b es :=
  ⟨h.1, fun i hi => (h.2.1 i hi).set hc, fun o => (World.frozen?_setCell _ _ _ _).trans (h.2.2.1 o), by simpa [World.setCell] using h.2.2.2⟩
/-- A part: a token, and a table. -/
abbrev PR := List (Int × Int) × List ER
def Parts (w : World) (a : Option Addr) (ps : List PR) : Prop :=
  ps.length ≤ 1048576 ∧ (ps.length = 0 ∨ ∃ cb co, a = some ⟨cb, co, none⟩ ∧ ∀ i, (h : i < ps.length) → ∃ xa xc ya yc, w.cell? ⟨cb, co + i * 2, none⟩ = some (.slice xa ps[i].1.length xc) ∧ w.cell? ⟨cb, co + i * 2 + 1, none⟩ = some (.slice ya ps[i].2.length yc) ∧ Ivs w xa ps[i].1 ∧ Envs w ya ps[i].2)
theorem Parts.call {w w1 : World} {a : Option Addr} {ps : List PR} (h : Parts w a ps) (hb : Below w.heap.size w w1) : Parts w1 a ps := by
  refine ⟨h.1, ?_⟩
  rcases h.2 with h0 | ⟨cb, co, rfl, hc⟩
  · exact .inl h0
  · refine .inr ⟨cb, co, rfl, fun i hi => ?_⟩
    obtain ⟨xa, xc, ya, yc, h1, h2, h4, h5⟩ := hc i hi
    exact ⟨xa, xc, ya, yc, (hb.cell (World.block_lt_of_cell? w _ h1)).trans h1, (hb.cell (World.block_lt_of_cell? w _ h2)).trans h2, h4.call hb, h5.call hb⟩
def AtP (w : World) (g i : Nat) (e : PR) : Prop := ∃ g1 g2, g < g1 ∧ g < g2 ∧ w.cell? ⟨g, i * 2, none⟩ = some (.slice (some ⟨g1, 0, none⟩) e.1.length e.1.length) ∧ w.cell? ⟨g, i * 2 + 1, none⟩ = some (.slice (some ⟨g2, 0, none⟩) e.2.length e.2.length) ∧ OwnV w g1 e.1 ∧ OwnE w g2 e.2
theorem AtP.call {w w1 : World} {g i : Nat} {e : PR} (h : AtP w g i e) (hb : Below w.heap.size w w1) : AtP w1 g i e := by
  obtain ⟨g1, g2, q1, q2, c1, c2, o1, o2⟩ := h
  exact ⟨g1, g2, q1, q2, (hb.cell (World.block_lt_of_cell? w _ c1)).trans c1, (hb.cell (World.block_lt_of_cell? w _ c2)).trans c2, o1.call hb, o2.call hb⟩
def OwnP (w : World) (b : Nat) (ps : List PR) : Prop := ps.length ≤ 1048576 ∧ (∀ i, (h : i < ps.length) → AtP w b i ps[i]) ∧ (∀ o, w.frozen? ⟨b, o, none⟩ = false) ∧ b < w.heap.size
theorem OwnP.call {w w1 : World} {b : Nat} {ps : List PR} (h : OwnP w b ps) (hb : Below w.heap.size w w1) : OwnP w1 b ps :=
  ⟨h.1, fun i hi => (h.2.1 i hi).call hb, fun o => (hb.frozen (by exact h.2.2.2)).trans (h.2.2.1 o), Nat.lt_of_lt_of_le h.2.2.2 hb.size⟩
theorem OwnP.parts {w : World} {b : Nat} {ps : List PR} (h : OwnP w b ps) : Parts w (some ⟨b, 0, none⟩) ps :=
  ⟨h.1, .inr ⟨b, 0, rfl, fun i hi => by
    obtain ⟨g1, g2, _, _, c1, c2, o1, o2⟩ := h.2.1 i hi
    rw [Nat.zero_add]
    exact ⟨_, _, _, _, c1, c2, o1.1, o2.envs⟩⟩⟩
set_option maxHeartbeats 1000000 in
theorem toPart_c (xa ya : Option Addr) (xc yc : Nat) (xs : List (Int × Int)) (es : List ER) (w : World) (hx : Ivs w xa xs) (hy : Envs w ya es) :
    Calls Tryz.prog 32 #[.agg #[.slice xa xs.length xc, .slice ya es.length yc]] w fun e w' => ∃ b1 b2, e = .returned (.agg #[.slice (some ⟨b1, 0, none⟩) xs.length xs.length, .slice (some ⟨b2, 0, none⟩) es.length es.length]) ∧ OwnV w' b1 xs ∧ OwnE w' b2 es ∧ (w.heap.size ≤ b1 ∧ b1 < b2) ∧ Below w.heap.size w w' := by
  have Xhx := hide hx
  have Xhy := hide hy
  have T0 := ((C2.new w (.slice xa xs.length xc) (.slice ya es.length yc) 58).alloc (Obj.cells #[.slice none 0 0, .slice none 0 0] 72)).alloc (Obj.cells #[.slice none 0 0, .slice none 0 0] 72)
  have T1 := (C2.new (w.alloc (Obj.cells #[.slice xa xs.length xc, .slice ya es.length yc] 58)) (.slice none 0 0) (.slice none 0 0) 72).alloc (Obj.cells #[.slice none 0 0, .slice none 0 0] 72)
  have T2 := C2.new ((w.alloc (Obj.cells #[.slice xa xs.length xc, .slice ya es.length yc] 58)).alloc (Obj.cells #[.slice none 0 0, .slice none 0 0] 72)) (.slice none 0 0) (.slice none 0 0) 72
  have K0 : Below w.heap.size w (((w.alloc (Obj.cells #[.slice xa xs.length xc, .slice ya es.length yc] 58)).alloc (Obj.cells #[.slice none 0 0, .slice none 0 0] 72)).alloc (Obj.cells #[.slice none 0 0, .slice none 0 0] 72)) := (((Below.refl _ _).alloc (Nat.le_refl _) _).alloc (by simp) _).alloc (by simp; omega) _
  rw [show (w.alloc (Obj.cells #[.slice xa xs.length xc, .slice ya es.length yc] 58)).heap.size = w.heap.size + 1 by simp] at T1
  rw [show ((w.alloc (Obj.cells #[.slice xa xs.length xc, .slice ya es.length yc] 58)).alloc (Obj.cells #[.slice none 0 0, .slice none 0 0] 72)).heap.size = w.heap.size + 2 by simp] at T2
  have HT0 := hide T0
  have HT1 := hide T1
  have HT2 := hide T2
  have HK := hide K0
  clear T0 T1 T2 K0 hx hy
  go_enter Tryz.func32, Tryz.ntmps32
  go_wp2_with fail
  generalize ((w.alloc (Obj.cells #[.slice xa xs.length xc, .slice ya es.length yc] 58)).alloc (Obj.cells #[.slice none 0 0, .slice none 0 0] 72)).alloc (Obj.cells #[.slice none 0 0, .slice none 0 0] 72) = u0 at HT0 HT1 HT2 HK ⊢
  refine (toEntryS_c _ _ xs _ ((unhide Xhx).call (unhide HK))).mono ?_
  rintro e u1 ⟨rfl, R1, kb⟩
  have lu1 := hide (unhide HT2).lt
  have HT0 := hide ((unhide HT0).call kb)
  have HT1 := hide ((unhide HT1).call kb)
  have HT2 := hide ((unhide HT2).call kb)
  have HK := hide ((unhide HK).trans (kb.mono (unhide HK).size))
  have HR1 := hide R1
  clear R1 kb
  obtain ⟨b1, hb1⟩ : ∃ b, b = u0.heap.size := ⟨_, rfl⟩
  rw [← hb1] at HR1 ⊢
  have lw1 : w.heap.size + 2 < b1 := by rw [hb1]; exact unhide lu1
  clear hb1 lu1
  have d := (unhide HT2).1
  have f := (unhide HT2).2.2 0
  have c := (unhide HT0).2.1
  go_wp2_with fail
  clear c d f
  have HT0 := hide ((unhide HT0).other (c := w.heap.size + 2) (o := 0) (v := .slice (some ⟨b1, 0, none⟩) xs.length xs.length) (by omega))
  have HT1 := hide ((unhide HT1).other (c := w.heap.size + 2) (o := 0) (v := .slice (some ⟨b1, 0, none⟩) xs.length xs.length) (by omega))
  have HT2 := hide ((unhide HT2).set0 (.slice (some ⟨b1, 0, none⟩) xs.length xs.length))
  have HR1 := hide ((unhide HR1).set (c := w.heap.size + 2) (p := 0) (v := .slice (some ⟨b1, 0, none⟩) xs.length xs.length) (by omega))
  have HK := hide ((unhide HK).setCell (p := ⟨w.heap.size + 2, 0, none⟩) (by show w.heap.size ≤ w.heap.size + 2; omega) (.slice (some ⟨b1, 0, none⟩) xs.length xs.length))
  generalize u1.setCell ⟨w.heap.size + 2, 0, none⟩ (.slice (some ⟨b1, 0, none⟩) xs.length xs.length) = u2 at HT0 HT1 HT2 HK HR1 ⊢
  have HR1_ := HR1
  refine (toEnvS_c _ _ es _ ((unhide Xhy).call (unhide HK))).mono ?_
  rintro e u3 ⟨rfl, R2, kb⟩
  have lu2 := hide (unhide HT2).lt
  have HR1 := hide ((unhide HR1).call kb)
  have HT0 := hide ((unhide HT0).call kb)
  have HT1 := hide ((unhide HT1).call kb)
  have HT2 := hide ((unhide HT2).call kb)
  have HK := hide ((unhide HK).trans (kb.mono (unhide HK).size))
  have HR2 := hide R2
  clear R2 kb
  have lt2 := hide (show b1 < u2.heap.size from (unhide HR1_).2.2)
  obtain ⟨b2, hb2⟩ : ∃ b, b = u2.heap.size := ⟨_, rfl⟩
  rw [← hb2] at HR2 ⊢
  have lw2 : w.heap.size + 2 < b2 := by rw [hb2]; exact unhide lu2
  have lb2 : b1 < b2 := by rw [hb2]; exact unhide lt2
  clear lt2
  clear hb2 lu2
  have d := (unhide HT2).2.1
  have f := (unhide HT2).2.2 1
  have d0 := (unhide HT2).1
  have e0 := (unhide HT1).1
  have e1 := (unhide HT1).2.1
  have f0 := (unhide HT1).2.2 0
  have f1 := (unhide HT1).2.2 1
  go_wp2_with fail
  clear f d d0 e0 e1 f0 f1
  have HT1 := hide ((((unhide HT1).other (c := w.heap.size + 1 + 1) (o := 1) (v := .slice (some ⟨b2, 0, none⟩) es.length es.length) (by omega)).set0 (.slice (some ⟨b1, 0, none⟩) xs.length xs.length)).set1 (.slice (some ⟨b2, 0, none⟩) es.length es.length))
  have HR1 := hide ((((unhide HR1).set (c := w.heap.size + 1 + 1) (p := 1) (v := .slice (some ⟨b2, 0, none⟩) es.length es.length) (by omega)).set (c := w.heap.size + 1) (p := 0) (v := .slice (some ⟨b1, 0, none⟩) xs.length xs.length) (by omega)).set (c := w.heap.size + 1) (p := 1) (v := .slice (some ⟨b2, 0, none⟩) es.length es.length) (by omega))
  have HR2 := hide ((((unhide HR2).set (c := w.heap.size + 1 + 1) (p := 1) (v := .slice (some ⟨b2, 0, none⟩) es.length es.length) (by omega)).set (c := w.heap.size + 1) (p := 0) (v := .slice (some ⟨b1, 0, none⟩) xs.length xs.length) (by omega)).set (c := w.heap.size + 1) (p := 1) (v := .slice (some ⟨b2, 0, none⟩) es.length es.length) (by omega))
  have HK := hide ((((unhide HK).setCell (p := ⟨w.heap.size + 1 + 1, 1, none⟩) (by show w.heap.size ≤ w.heap.size + 1 + 1; omega) (.slice (some ⟨b2, 0, none⟩) es.length es.length)).setCell (p := ⟨w.heap.size + 1, 0, none⟩) (by show w.heap.size ≤ w.heap.size + 1; omega) (.slice (some ⟨b1, 0, none⟩) xs.length xs.length)).setCell (p := ⟨w.heap.size + 1, 1, none⟩) (by show w.heap.size ≤ w.heap.size + 1; omega) (.slice (some ⟨b2, 0, none⟩) es.length es.length))
  generalize ((u3.setCell ⟨w.heap.size + 1 + 1, 1, none⟩ (.slice (some ⟨b2, 0, none⟩) es.length es.length)).setCell ⟨w.heap.size + 1, 0, none⟩ (.slice (some ⟨b1, 0, none⟩) xs.length xs.length)).setCell ⟨w.heap.size + 1, 1, none⟩ (.slice (some ⟨b2, 0, none⟩) es.length es.length) = u4 at HT1 HR1 HR2 HK ⊢
  have g0 := (unhide HT1).1
  have g1 := (unhide HT1).2.1
  exact bodyPost_ret (v := .agg #[.slice (some ⟨b1, 0, none⟩) xs.length xs.length, .slice (some ⟨b2, 0, none⟩) es.length es.length]) (by simp [results, Tryz.results32, go_sem, g0, g1]) rfl ⟨b1, b2, rfl, unhide HR1, unhide HR2, ⟨by omega, by omega⟩, unhide HK⟩
end Go.Proofs.YthldhjifnpfmiaaGreatDoor
