/- A byte of a code; bounds made wider by a code. -/
import Derived.Test.YtoipaejbkcdioaaDoorHurC
import Derived.Test.YtoipaejbkcdioaaDoorMeeE
namespace Go.Proofs.YtoipaejbkcdioaaDoor
open Go.RowKit Go.Iv
set_option linter.unusedSimpArgs false
set_option linter.unusedVariables false

set_option maxHeartbeats 1000000 in
theorem byteOf_c (a : Option Addr) (len cap : Nat) (i : Int) (hi : 0 ≤ i ∧ i ≤ 4611686018427387904) (w : World) (h : Code w a len) : Calls Tryd.prog 58 #[.slice a len cap, .int .i64 i] w fun e w' => (∃ n : Int, e = .returned (.int .i64 n) ∧ 0 ≤ n ∧ n ≤ 255) ∧ w' = w := by
  have hl := h.1
  obtain ⟨i0, i1⟩ := hi
  by_cases h0 : len = 0
  · have e0 : ((len : Int) == 0) = true := by simp [h0]
    clear h h0
    go_enter Tryd.func58, Tryd.ntmps58
    go_wp2
    go_ret
    exact ⟨⟨0, rfl, by omega, by omega⟩, rfl⟩
  · have e0 : ((len : Int) == 0) = false := by simp; omega
    rcases h.2 with h1 | ⟨cb, co, rfl, hc⟩
    · omega
    have hpos : (0 : Int) < (len : Int) := by omega
    obtain ⟨m, hm⟩ : ∃ m : Nat, Int.tmod i len = m := ⟨(Int.tmod i len).toNat, by have := Int.tmod_nonneg (len : Int) i0; omega⟩
    have hm2 : m < len := by have := Int.tmod_lt_of_pos i hpos; omega
    obtain ⟨z, hz, z0, z1⟩ := hc m hm2
    clear h hc h0
    go_enter Tryd.func58, Tryd.ntmps58
    go_wp2
    go_ret
    exact ⟨⟨z, rfl, z0, z1⟩, rfl⟩
/-- The box of what is made wider, the answer's, that of the new bounds, their rows. -/
def GrT (w0 : World) (T : Nat) (x y z : Value) (oa : Option Addr) (ca : Nat) (ob : Option Addr) (cb : Nat) (xs ys : List (Int × Int)) (u : World) : Prop :=
  C3 u w0.heap.size x y z ∧ C3 u (w0.heap.size + 1) (.bool false) (.slice none 0 0) (.slice none 0 0) ∧ C3 u (w0.heap.size + 2) (.bool true) (.slice oa xs.length ca) (.slice ob ys.length cb) ∧ RowsT u (w0.heap.size + 3) T oa ca ob cb xs ys ∧ Below w0.heap.size w0 u ∧ w0.heap.size + 3 ≤ T
section
variable {w0 : World} {T : Nat} {x y z : Value} {oa ob : Option Addr} {ca cb : Nat} {xs ys : List (Int × Int)} {u v : World}
theorem GrT.call (h : GrT w0 T x y z oa ca ob cb xs ys u) (k : Below u.heap.size u v) : GrT w0 T x y z oa ca ob cb xs ys v :=
  ⟨h.1.call k, h.2.1.call k, h.2.2.1.call k, h.2.2.2.1.call k, h.2.2.2.2.1.trans (k.mono h.2.2.2.2.1.size), h.2.2.2.2.2⟩
theorem GrT.alloc (h : GrT w0 T x y z oa ca ob cb xs ys u) (o : Obj) : GrT w0 T x y z oa ca ob cb xs ys (u.alloc o) := h.call ((Below.refl _ u).alloc (Nat.le_refl _) o)
theorem GrT.set {c o : Nat} (h : GrT w0 T x y z oa ca ob cb xs ys u) (hc : T ≤ c) (p : Value) : GrT w0 T x y z oa ca ob cb xs ys (u.setCell ⟨c, o, none⟩ p) := by
  have hT := h.2.2.2.2.2
  exact ⟨h.1.other (by omega), h.2.1.other (by omega), h.2.2.1.other (by omega), h.2.2.2.1.set (.inr hc) _, h.2.2.2.2.1.setCell (by show w0.heap.size ≤ c; omega) _, hT⟩
theorem GrT.up (h : GrT w0 T x y z oa ca ob cb xs ys u) : GrT w0 u.heap.size x y z oa ca ob cb xs ys u :=
  ⟨h.1, h.2.1, h.2.2.1, RowsT.of h.2.2.2.1.1, h.2.2.2.2.1, Nat.le_trans h.2.2.2.2.2 h.2.2.2.1.2.2.2⟩
theorem GrT.app1 (h : GrT w0 T x y z oa ca ob cb xs ys u) {oa' : Option Addr} {ca' : Nat} {l g : Int}
    (hown : v.ownsRow (w0.heap.size + 3) 67 2 (.slice oa' (xs.length + 1) ca') (xs.length + 1) (cellsV xs ++ [.int .i64 l, .int .i64 g])) (hg : u.grownBy v (Value.slice oa xs.length ca).ownBlock) (hloc : (Value.slice oa' (xs.length + 1) ca').ownBlock = (Value.slice oa xs.length ca).ownBlock ∨ (Value.slice oa' (xs.length + 1) ca').ownBlock = some u.heap.size) :
    GrT w0 v.heap.size x y z oa' ca' ob cb (xs ++ [(l, g)]) ys (v.setCell ⟨w0.heap.size + 2, 1, none⟩ (.slice oa' (xs.length + 1) ca')) ∧ C3 v (w0.heap.size + 2) (.bool true) (.slice oa xs.length ca) (.slice ob ys.length cb) := by
  obtain ⟨h1, h2, h3, h4, h5, h6⟩ := h
  have hr := (RowsT.app h4 hown hg hloc).1
  have hB : w0.heap.size + 3 ≤ u.heap.size := Nat.le_trans h6 h4.2.2.2
  have hj : ∀ j, (Value.slice oa xs.length ca).ownBlock = some j → w0.heap.size + 3 ≤ j := fun j e => (h4.1.1.lt j e).1
  have el : (xs ++ [(l, g)]).length = xs.length + 1 := by simp
  have k3 := h3.grown hg (fun e => by have := hj _ e.symm; omega)
  have hs := hg.size
  refine ⟨⟨(h1.grown hg (fun e => by have := hj _ e.symm; omega)).other (by omega), (h2.grown hg (fun e => by have := hj _ e.symm; omega)).other (by omega), by rw [el]; exact k3.set1 _, (RowsT.of hr).set (.inl (by omega)) _, (h5.grown hg (by omega) (fun j e => by have := hj j e; omega)).setCell (by show w0.heap.size ≤ w0.heap.size + 2; omega) _, by omega⟩, k3⟩
theorem GrT.app2 (h : GrT w0 T x y z oa ca ob cb xs ys u) {ob' : Option Addr} {cb' : Nat} {l g : Int}
    (hown : v.ownsRow (w0.heap.size + 3) 67 2 (.slice ob' (ys.length + 1) cb') (ys.length + 1) (cellsV ys ++ [.int .i64 l, .int .i64 g])) (hg : u.grownBy v (Value.slice ob ys.length cb).ownBlock) (hloc : (Value.slice ob' (ys.length + 1) cb').ownBlock = (Value.slice ob ys.length cb).ownBlock ∨ (Value.slice ob' (ys.length + 1) cb').ownBlock = some u.heap.size) :
    GrT w0 v.heap.size x y z oa ca ob' cb' xs (ys ++ [(l, g)]) (v.setCell ⟨w0.heap.size + 2, 2, none⟩ (.slice ob' (ys.length + 1) cb')) ∧ C3 v (w0.heap.size + 2) (.bool true) (.slice oa xs.length ca) (.slice ob ys.length cb) := by
  obtain ⟨h1, h2, h3, h4, h5, h6⟩ := h
  have h4s : RowsT u (w0.heap.size + 3) T ob cb oa ca ys xs := ⟨h4.1.swap, h4.2.2.1, h4.2.1, h4.2.2.2⟩
  have hr := (RowsT.app h4s hown hg hloc).1.swap
  have hB : w0.heap.size + 3 ≤ u.heap.size := Nat.le_trans h6 h4.2.2.2
  have hj : ∀ j, (Value.slice ob ys.length cb).ownBlock = some j → w0.heap.size + 3 ≤ j := fun j e => (h4.1.2.1.lt j e).1
  have el : (ys ++ [(l, g)]).length = ys.length + 1 := by simp
  have k3 := h3.grown hg (fun e => by have := hj _ e.symm; omega)
  have hs := hg.size
  refine ⟨⟨(h1.grown hg (fun e => by have := hj _ e.symm; omega)).other (by omega), (h2.grown hg (fun e => by have := hj _ e.symm; omega)).other (by omega), by rw [el]; exact k3.set2 _, (RowsT.of hr).set (.inl (by omega)) _, (h5.grown hg (by omega) (fun j e => by have := hj j e; omega)).setCell (by show w0.heap.size ≤ w0.heap.size + 2; omega) _, by omega⟩, k3⟩
theorem CI.set {c o b : Nat} {l g : Int} (h : CI u b l g) (hc : c ≠ b) (p : Value) : CI (u.setCell ⟨c, o, none⟩ p) b l g :=
  ⟨(World.cell?_setCell_other _ _ _ _ (fun e => hc (congrArg Addr.block e))).trans h.1, (World.cell?_setCell_other _ _ _ _ (fun e => hc (congrArg Addr.block e))).trans h.2.1, fun o => by rw [World.frozen?_setCell]; exact h.2.2.1 o, by simpa [World.setCell] using h.2.2.2⟩
theorem CI.st0 {b : Nat} {l g : Int} (h : CI u b l g) (p : Int) : CI (u.setCell ⟨b, 0, none⟩ (.int .i64 p)) b p g :=
  ⟨by simp [go_sem, h.1], by simp [go_sem, h.2.1], fun o => by simp [World.frozen?_setCell, h.2.2.1 o], by simpa [World.setCell] using h.2.2.2⟩
theorem CI.st1 {b : Nat} {l g : Int} (h : CI u b l g) (p : Int) : CI (u.setCell ⟨b, 1, none⟩ (.int .i64 p)) b l p :=
  ⟨by simp [go_sem, h.1], by simp [go_sem, h.2.1], fun o => by simp [World.frozen?_setCell, h.2.2.1 o], by simpa [World.setCell] using h.2.2.2⟩
end
theorem hg_low {w0 : World} {T : Nat} {x y z : Value} {oa ob : Option Addr} {ca cb : Nat} {xs ys : List (Int × Int)} {u : World} (h : GrT w0 T x y z oa ca ob cb xs ys u) : w0.heap.size + 2 < u.heap.size := h.2.2.1.lt
theorem ivs_snoc {X : List (Int × Int)} {l g : Int} (h : ivsP X) (hlg : l ≤ g) : ivsP (X ++ [(l, g)]) := by
  intro k hk
  by_cases hx : k < X.length
  · rw [List.getElem_append_left hx]; exact h k hx
  · have e : k = X.length := by simp at hk; omega
    subst e
    simpa using hlg
theorem ivs_app {X Y : List (Int × Int)} (h : ivsP X) (k : ivsP Y) : ivsP (X ++ Y) := by
  intro i hi
  by_cases hx : i < X.length
  · rw [List.getElem_append_left hx]; exact h i hx
  · rw [List.getElem_append_right (by omega)]
    exact k _ (by simp at hi; omega)
theorem ivsL {X Y : List (Int × Int)} (h : ivsP (X ++ Y)) : ivsP X := fun k hk => by have := h k (by simp; omega); rw [List.getElem_append_left hk] at this; exact this
theorem ivsR {X Y : List (Int × Int)} (h : ivsP (X ++ Y)) : ivsP Y := fun k hk => by have := h (X.length + k) (by simp; omega); rw [List.getElem_append_right (by omega)] at this; simpa using this
set_option maxRecDepth 20000 in
set_option maxHeartbeats 16000000 in
theorem grown_c (li : Bool) (e1 e2 : Option Addr) (d1 d2 : Nat) (xs ys : List (Int × Int)) (a : Option Addr) (len cap : Nat) (w : World) (hx : Ivs w e1 xs) (hy : Ivs w e2 ys) (hc : Code w a len) (hl : xs.length ≤ 1000 ∧ ys.length ≤ 1000) (hin : InL xs ∧ InL ys) (ho : ivsP (xs ++ ys)) :
    Calls Tryd.prog 26 #[.agg #[.bool li, .slice e1 xs.length d1, .slice e2 ys.length d2], .slice a len cap] w fun e w' => ∃ (oa : Option Addr) (ca : Nat) (ob : Option Addr) (cb : Nat) (xs3 ys3 : List (Int × Int)), e = .returned (.agg #[.bool true, .slice oa xs3.length ca, .slice ob ys3.length cb]) ∧ RowsE w' w.heap.size oa ca ob cb xs3 ys3 ∧ (xs3.length = xs.length ∧ ys3.length = ys.length) ∧ ivsP (xs3 ++ ys3) ∧ Below w.heap.size w w' := by
  have HX := hide hx
  have HY := hide hy
  have HC := hide hc
  have HIN := hide hin
  have HO := hide ho
  have n1 : xs.length ≤ 1000 := hl.1
  have n2 : ys.length ≤ 1000 := hl.2
  clear hx hy hc hin ho hl
  obtain ⟨inf, hi, hz0, hz1, hz2⟩ := info_parts ivInfo
  have g0 : GrT w (w.heap.size + 3) (.bool li) (.slice e1 xs.length d1) (.slice e2 ys.length d2) none 0 none 0 [] [] (((w.alloc (Obj.cells #[.bool li, .slice e1 xs.length d1, .slice e2 ys.length d2] 30)).alloc (Obj.cells #[.bool false, .slice none 0 0, .slice none 0 0] 30)).alloc (Obj.cells #[.bool true, .slice none 0 0, .slice none 0 0] 30)) := by
    have q := B3.new w (.bool li) (.slice e1 xs.length d1) (.slice e2 ys.length d2) (.bool false) (.slice none 0 0) (.slice none 0 0) (.bool true) (.slice none 0 0) (.slice none 0 0) 30 30 30
    exact ⟨q.1, q.2.1, q.2.2.1, ⟨⟨World.ownsRow_nil _ _ _ _, World.ownsRow_nil _ _ _ _, fun p q hp => (by cases hp)⟩, fun x hx => (by cases hx), fun x hx => (by cases hx), by simp⟩, q.2.2.2, Nat.le_refl _⟩
  go_enter Tryd.func26, Tryd.ntmps26
  go_upto_region 2 with fail
  generalize ((w.alloc (Obj.cells #[.bool li, .slice e1 xs.length d1, .slice e2 ys.length d2] 30)).alloc (Obj.cells #[.bool false, .slice none 0 0, .slice none 0 0] 30)).alloc (Obj.cells #[.bool true, .slice none 0 0, .slice none 0 0] 30) = u at g0 ⊢
  have HG := hide g0
  clear g0
  have p0 := (unhide HG).1.1
  have p1 := (unhide HG).1.2.1
  have p2 := (unhide HG).1.2.2.1
  go_wp2
  clear p0 p1 p2
  go_loopw [6] (fun i wr => ∃ (k : Nat) (xs3 ys3 : List (Int × Int)) (oa : Option Addr) (ca : Nat) (ob : Option Addr) (cb T : Nat), i = .int .i64 k ∧ k = xs3.length + ys3.length ∧ xs3.length ≤ xs.length ∧ ys3.length ≤ ys.length ∧ (ys3 = [] ∨ xs3.length = xs.length) ∧ GrT w T (.bool li) (.slice e1 xs.length d1) (.slice e2 ys.length d2) oa ca ob cb xs3 ys3 wr ∧ ivsP xs3 ∧ ivsP ys3) (fun i _ => xs.length + ys.length - (intOf i).toNat)
  case atStart => exact ⟨0, [], [], none, 0, none, 0, _, rfl, rfl, Nat.zero_le _, Nat.zero_le _, .inl rfl, unhide HG, fun k hk => absurd hk (by simp), fun k hk => absurd hk (by simp)⟩
  case round =>
    clear HG
    obtain ⟨k, xs3, ys3, oa, ca, ob, cb, T, rfl, hk, m1, m2, hor, hg, hv1, hv2⟩ := hrel
    have HG := hide hg.up
    have HV := hide (And.intro hv1 hv2)
    have HK := hide hk
    have HM := hide (And.intro m1 m2)
    have HOR := hide hor
    have hkl : k ≤ 2000 := by omega
    clear hg hv1 hv2 hk m1 m2 hor T
    have p0 := (unhide HG).1.1
    have p1 := (unhide HG).1.2.1
    have p2 := (unhide HG).1.2.2.1
    have z1 : w.heap.size + 2 < wr.heap.size := (unhide HG).2.2.1.lt
    by_cases hlt : k < xs.length + ys.length
    · have hkc : (k : Int) < (xs.length : Int) + (ys.length : Int) := by omega
      have hg1 := (unhide HG).alloc (Obj.cells #[.int .i64 0, .int .i64 0] 67)
      have hi1 := CI.new wr 0 0 67
      have hb3 : w.heap.size + 3 ≤ wr.heap.size := (unhide HG).2.2.2.2.2
      go_upto_region 6 with fail
      clear p0 p1 p2 z1 hkc HG
      generalize wr.alloc (Obj.cells #[.int .i64 0, .int .i64 0] 67) = w1 at hg1 hi1 ⊢
      generalize wr.heap.size = bz at hg1 hi1 hb3 ⊢
      have HG := hide hg1
      have HI := hide hi1
      clear hg1 hi1
      have p1 := (unhide HG).1.2.1
      have p2 := (unhide HG).1.2.2.1
      have b0 := (unhide HI).1
      have b1 := (unhide HI).2.1
      have f0 := (unhide HI).2.2.1 0
      have f1 := (unhide HI).2.2.1 1
      by_cases hlt1 : k < xs.length
      · have hq : xs3.length = k ∧ ys3 = [] := by
          have h1 := unhide HK
          have h2 := unhide HM
          rcases unhide HOR with h3 | h3
          · subst h3; exact ⟨by simp at h1; omega, rfl⟩
          · have : ys3.length = 0 := by omega
            exact ⟨by omega, List.eq_nil_of_length_eq_zero this⟩
        obtain ⟨hq1, rfl⟩ := hq
        have HQ := hide hq1
        clear hq1
        have hki : (k : Int) < (xs.length : Int) := by omega
        rcases ((unhide HX).call (unhide HG).2.2.2.2.1).2 with h0 | ⟨rb, ro, rfl, hc⟩
        · omega
        have c0 := hc k hlt1
        obtain ⟨il, ig⟩ := (unhide HIN).1 _ (List.getElem_mem hlt1)
        have hlg := ivsL (unhide HO) k hlt1
        generalize xs[k] = p at c0 il ig hlg
        obtain ⟨l, g⟩ := p
        simp only at c0 il ig hlg
        obtain ⟨c0, c1⟩ := c0
        clear hc
        unfold In at il ig
        obtain ⟨il0, il1⟩ := il
        obtain ⟨ig0, ig1⟩ := ig
        go_upto_region 9 with fail
        clear c0 c1 p2
        have hg := ((unhide HG).set (Nat.le_refl _) (.int .i64 l) (o := 0)).set (Nat.le_refl _) (.int .i64 g) (o := 1)
        have hi := (unhide HI).stored l g
        clear HG HI b0 b1 f0 f1
        generalize (w1.setCell ⟨bz, 0, none⟩ (.int .i64 l)).setCell ⟨bz, 1, none⟩ (.int .i64 g) = w2 at hg hi ⊢
        have HG := hide hg
        have HI := hide hi
        clear hg hi
        have p1 := (unhide HG).1.2.1
        have b0 := (unhide HI).1
        have b1 := (unhide HI).2.1
        have f0 := (unhide HI).2.2.1 0
        have f1 := (unhide HI).2.2.1 1
        go_wp2_with fail
        refine (byteOf_c a len cap _ (by constructor <;> omega) _ ((unhide HC).below (unhide HG).2.2.2.2.1)).mono ?_
        rintro e w' ⟨⟨n1, rfl, n1a, n1b⟩, hw⟩
        subst w'
        obtain ⟨r1, hr1⟩ : ∃ r, Int.tmod n1 7 = r := ⟨_, rfl⟩
        have r1a : 0 ≤ r1 := by rw [← hr1]; exact Int.tmod_nonneg 7 n1a
        have r1b : r1 ≤ 6 := by have := Int.tmod_lt_of_pos n1 (show (0 : Int) < 7 by omega); omega
        by_cases cl : -4611686018427387904 < l
        · skip
          go_upto_region 12 with fail
          clear p1
          have hg := (unhide HG).set (Nat.le_refl _) (.int .i64 (l - r1)) (o := 0)
          have hi := (unhide HI).st0 (l - r1)
          clear HG HI b0 b1 f0 f1
          generalize w2.setCell ⟨bz, 0, none⟩ (.int .i64 (l - r1)) = w3 at hg hi ⊢
          have HG := hide hg
          have HI := hide hi
          clear hg hi
          have p1 := (unhide HG).1.2.1
          have b0 := (unhide HI).1
          have b1 := (unhide HI).2.1
          have f0 := (unhide HI).2.2.1 0
          have f1 := (unhide HI).2.2.1 1
          go_wp2_with fail
          refine (byteOf_c a len cap _ (by constructor <;> omega) _ ((unhide HC).below (unhide HG).2.2.2.2.1)).mono ?_
          rintro e w' ⟨⟨n2, rfl, n2a, n2b⟩, hw⟩
          subst w'
          obtain ⟨r2, hr2⟩ : ∃ r, Int.tmod n2 7 = r := ⟨_, rfl⟩
          have r2a : 0 ≤ r2 := by rw [← hr2]; exact Int.tmod_nonneg 7 n2a
          have r2b : r2 ≤ 6 := by have := Int.tmod_lt_of_pos n2 (show (0 : Int) < 7 by omega); omega
          by_cases cg : g < 4611686018427387904
          · skip
            go_upto_region 15 with fail
            clear p1
            have hg := (unhide HG).set (Nat.le_refl _) (.int .i64 (g + r2)) (o := 1)
            have hi := (unhide HI).st1 (g + r2)
            clear HG HI b0 b1 f0 f1
            generalize w3.setCell ⟨bz, 1, none⟩ (.int .i64 (g + r2)) = w5 at hg hi ⊢
            have HG := hide hg
            have HI := hide hi
            clear hg hi
            have p1 := (unhide HG).1.2.1
            have b0 := (unhide HI).1
            have b1 := (unhide HI).2.1
            have f0 := (unhide HI).2.2.1 0
            have f1 := (unhide HI).2.2.1 1
            go_upto_region 16 with fail
            clear p1
            have hacc : xs3.length ≤ 1000 := by have := unhide HK; have := unhide HM; omega
            have haccI : (xs3.length : Int) ≤ 1000 := by omega
            have o1 := (unhide HG).2.2.1.2.1
            have o1' := ((unhide HG).alloc (Obj.cells #[.int .i64 (l - r1), .int .i64 (g + r2)] 67)).2.2.1.2.1
            have hbw : w.heap.size + 3 ≤ w5.heap.size := by have := (unhide HG).2.2.2.2.2; have := (unhide HG).2.2.2.1.2.2.2; omega
            have hlow := hg_low (unhide HG)
            go_wp2_with (at_builtin; refine wpList_app2 _ rfl _ _ 28 rfl (w.heap.size + 3) 67 inf (.agg #[.int .i64 0, .int .i64 0]) 2 16 Tryd.underlying28 hi hz0 hz1 hz2 rfl (by decide) _ _ _ rfl (World.ownsRow.alloc (unhide HG).2.2.2.1.1.1 _) ⟨_, 0, none⟩ 1 1 [.int .i64 (l - r1), .int .i64 (g + r2)] rfl rfl (World.news_of_block (heap_alloc_new _ _)) (one2' _ _) (by unfold maxLen; omega) (by omega) (by simp; omega) ?_; intro o' c' w6 hown hgrow hloc; clear o1 o1' b0 b1 f0 f1; obtain ⟨hp2, hc2⟩ := GrT.app1 ((unhide HG).alloc (Obj.cells #[.int .i64 (l - r1), .int .i64 (g + r2)] 67)) hown hgrow hloc; have HP2 := hide hp2; have q0 := hc2.1; have q1 := hc2.2.1; have q2 := hc2.2.2.1; have v0 := hc2.2.2.2 0; have v1 := hc2.2.2.2 1; have v2 := hc2.2.2.2 2; clear hp2 hc2 hown hgrow hloc)
            go_roundw
            case rel => exact ⟨k + 1, xs3 ++ [(l - r1, g + r2)], [], o', c', ob, cb, _, by go_num, by have := unhide HQ; simp; omega, by have := unhide HQ; simp; omega, by simp, .inl rfl, unhide HP2, ivs_snoc (unhide HV).1 (by omega), (unhide HV).2⟩
            case measure => simp [intOf]; omega
          · skip
            go_upto_region 15 with fail
            clear p1
            generalize w3 = w5 at HG HI b0 b1 f0 f1 ⊢
            clear b0 b1 f0 f1
            have p1 := (unhide HG).1.2.1
            have b0 := (unhide HI).1
            have b1 := (unhide HI).2.1
            have f0 := (unhide HI).2.2.1 0
            have f1 := (unhide HI).2.2.1 1
            go_upto_region 16 with fail
            clear p1
            have hacc : xs3.length ≤ 1000 := by have := unhide HK; have := unhide HM; omega
            have haccI : (xs3.length : Int) ≤ 1000 := by omega
            have o1 := (unhide HG).2.2.1.2.1
            have o1' := ((unhide HG).alloc (Obj.cells #[.int .i64 (l - r1), .int .i64 (g)] 67)).2.2.1.2.1
            have hbw : w.heap.size + 3 ≤ w5.heap.size := by have := (unhide HG).2.2.2.2.2; have := (unhide HG).2.2.2.1.2.2.2; omega
            have hlow := hg_low (unhide HG)
            go_wp2_with (at_builtin; refine wpList_app2 _ rfl _ _ 28 rfl (w.heap.size + 3) 67 inf (.agg #[.int .i64 0, .int .i64 0]) 2 16 Tryd.underlying28 hi hz0 hz1 hz2 rfl (by decide) _ _ _ rfl (World.ownsRow.alloc (unhide HG).2.2.2.1.1.1 _) ⟨_, 0, none⟩ 1 1 [.int .i64 (l - r1), .int .i64 (g)] rfl rfl (World.news_of_block (heap_alloc_new _ _)) (one2' _ _) (by unfold maxLen; omega) (by omega) (by simp; omega) ?_; intro o' c' w6 hown hgrow hloc; clear o1 o1' b0 b1 f0 f1; obtain ⟨hp2, hc2⟩ := GrT.app1 ((unhide HG).alloc (Obj.cells #[.int .i64 (l - r1), .int .i64 (g)] 67)) hown hgrow hloc; have HP2 := hide hp2; have q0 := hc2.1; have q1 := hc2.2.1; have q2 := hc2.2.2.1; have v0 := hc2.2.2.2 0; have v1 := hc2.2.2.2 1; have v2 := hc2.2.2.2 2; clear hp2 hc2 hown hgrow hloc)
            go_roundw
            case rel => exact ⟨k + 1, xs3 ++ [(l - r1, g)], [], o', c', ob, cb, _, by go_num, by have := unhide HQ; simp; omega, by have := unhide HQ; simp; omega, by simp, .inl rfl, unhide HP2, ivs_snoc (unhide HV).1 (by omega), (unhide HV).2⟩
            case measure => simp [intOf]; omega
        · skip
          go_upto_region 12 with fail
          clear p1
          generalize w2 = w3 at HG HI b0 b1 f0 f1 ⊢
          clear b0 b1 f0 f1
          have p1 := (unhide HG).1.2.1
          have b0 := (unhide HI).1
          have b1 := (unhide HI).2.1
          have f0 := (unhide HI).2.2.1 0
          have f1 := (unhide HI).2.2.1 1
          go_wp2_with fail
          refine (byteOf_c a len cap _ (by constructor <;> omega) _ ((unhide HC).below (unhide HG).2.2.2.2.1)).mono ?_
          rintro e w' ⟨⟨n2, rfl, n2a, n2b⟩, hw⟩
          subst w'
          obtain ⟨r2, hr2⟩ : ∃ r, Int.tmod n2 7 = r := ⟨_, rfl⟩
          have r2a : 0 ≤ r2 := by rw [← hr2]; exact Int.tmod_nonneg 7 n2a
          have r2b : r2 ≤ 6 := by have := Int.tmod_lt_of_pos n2 (show (0 : Int) < 7 by omega); omega
          by_cases cg : g < 4611686018427387904
          · skip
            go_upto_region 15 with fail
            clear p1
            have hg := (unhide HG).set (Nat.le_refl _) (.int .i64 (g + r2)) (o := 1)
            have hi := (unhide HI).st1 (g + r2)
            clear HG HI b0 b1 f0 f1
            generalize w3.setCell ⟨bz, 1, none⟩ (.int .i64 (g + r2)) = w5 at hg hi ⊢
            have HG := hide hg
            have HI := hide hi
            clear hg hi
            have p1 := (unhide HG).1.2.1
            have b0 := (unhide HI).1
            have b1 := (unhide HI).2.1
            have f0 := (unhide HI).2.2.1 0
            have f1 := (unhide HI).2.2.1 1
            go_upto_region 16 with fail
            clear p1
            have hacc : xs3.length ≤ 1000 := by have := unhide HK; have := unhide HM; omega
            have haccI : (xs3.length : Int) ≤ 1000 := by omega
            have o1 := (unhide HG).2.2.1.2.1
            have o1' := ((unhide HG).alloc (Obj.cells #[.int .i64 (l), .int .i64 (g + r2)] 67)).2.2.1.2.1
            have hbw : w.heap.size + 3 ≤ w5.heap.size := by have := (unhide HG).2.2.2.2.2; have := (unhide HG).2.2.2.1.2.2.2; omega
            have hlow := hg_low (unhide HG)
            go_wp2_with (at_builtin; refine wpList_app2 _ rfl _ _ 28 rfl (w.heap.size + 3) 67 inf (.agg #[.int .i64 0, .int .i64 0]) 2 16 Tryd.underlying28 hi hz0 hz1 hz2 rfl (by decide) _ _ _ rfl (World.ownsRow.alloc (unhide HG).2.2.2.1.1.1 _) ⟨_, 0, none⟩ 1 1 [.int .i64 (l), .int .i64 (g + r2)] rfl rfl (World.news_of_block (heap_alloc_new _ _)) (one2' _ _) (by unfold maxLen; omega) (by omega) (by simp; omega) ?_; intro o' c' w6 hown hgrow hloc; clear o1 o1' b0 b1 f0 f1; obtain ⟨hp2, hc2⟩ := GrT.app1 ((unhide HG).alloc (Obj.cells #[.int .i64 (l), .int .i64 (g + r2)] 67)) hown hgrow hloc; have HP2 := hide hp2; have q0 := hc2.1; have q1 := hc2.2.1; have q2 := hc2.2.2.1; have v0 := hc2.2.2.2 0; have v1 := hc2.2.2.2 1; have v2 := hc2.2.2.2 2; clear hp2 hc2 hown hgrow hloc)
            go_roundw
            case rel => exact ⟨k + 1, xs3 ++ [(l, g + r2)], [], o', c', ob, cb, _, by go_num, by have := unhide HQ; simp; omega, by have := unhide HQ; simp; omega, by simp, .inl rfl, unhide HP2, ivs_snoc (unhide HV).1 (by omega), (unhide HV).2⟩
            case measure => simp [intOf]; omega
          · skip
            go_upto_region 15 with fail
            clear p1
            generalize w3 = w5 at HG HI b0 b1 f0 f1 ⊢
            clear b0 b1 f0 f1
            have p1 := (unhide HG).1.2.1
            have b0 := (unhide HI).1
            have b1 := (unhide HI).2.1
            have f0 := (unhide HI).2.2.1 0
            have f1 := (unhide HI).2.2.1 1
            go_upto_region 16 with fail
            clear p1
            have hacc : xs3.length ≤ 1000 := by have := unhide HK; have := unhide HM; omega
            have haccI : (xs3.length : Int) ≤ 1000 := by omega
            have o1 := (unhide HG).2.2.1.2.1
            have o1' := ((unhide HG).alloc (Obj.cells #[.int .i64 (l), .int .i64 (g)] 67)).2.2.1.2.1
            have hbw : w.heap.size + 3 ≤ w5.heap.size := by have := (unhide HG).2.2.2.2.2; have := (unhide HG).2.2.2.1.2.2.2; omega
            have hlow := hg_low (unhide HG)
            go_wp2_with (at_builtin; refine wpList_app2 _ rfl _ _ 28 rfl (w.heap.size + 3) 67 inf (.agg #[.int .i64 0, .int .i64 0]) 2 16 Tryd.underlying28 hi hz0 hz1 hz2 rfl (by decide) _ _ _ rfl (World.ownsRow.alloc (unhide HG).2.2.2.1.1.1 _) ⟨_, 0, none⟩ 1 1 [.int .i64 (l), .int .i64 (g)] rfl rfl (World.news_of_block (heap_alloc_new _ _)) (one2' _ _) (by unfold maxLen; omega) (by omega) (by simp; omega) ?_; intro o' c' w6 hown hgrow hloc; clear o1 o1' b0 b1 f0 f1; obtain ⟨hp2, hc2⟩ := GrT.app1 ((unhide HG).alloc (Obj.cells #[.int .i64 (l), .int .i64 (g)] 67)) hown hgrow hloc; have HP2 := hide hp2; have q0 := hc2.1; have q1 := hc2.2.1; have q2 := hc2.2.2.1; have v0 := hc2.2.2.2 0; have v1 := hc2.2.2.2 1; have v2 := hc2.2.2.2 2; clear hp2 hc2 hown hgrow hloc)
            go_roundw
            case rel => exact ⟨k + 1, xs3 ++ [(l, g)], [], o', c', ob, cb, _, by go_num, by have := unhide HQ; simp; omega, by have := unhide HQ; simp; omega, by simp, .inl rfl, unhide HP2, ivs_snoc (unhide HV).1 (by omega), (unhide HV).2⟩
            case measure => simp [intOf]; omega
      · have hq : xs3.length = xs.length ∧ k = xs.length + ys3.length := by
          have h1 := unhide HK
          have h2 := unhide HM
          rcases unhide HOR with h3 | h3
          · subst h3; simp at h1; exact ⟨by omega, by simp; omega⟩
          · exact ⟨h3, by omega⟩
        obtain ⟨hq1, hq2⟩ := hq
        obtain ⟨j, hj⟩ : ∃ j, j = ys3.length := ⟨_, rfl⟩
        rw [← hj] at hq2
        have HQ := hide (And.intro hq1 hj)
        clear hq1 hj
        subst hq2
        have hlj : j < ys.length := by omega
        have hki : ¬ ((xs.length + j : Nat) : Int) < (xs.length : Int) := by omega
        have hsub : ((xs.length + j : Nat) : Int) - (xs.length : Int) = (j : Int) := by omega
        rcases ((unhide HY).call (unhide HG).2.2.2.2.1).2 with h0 | ⟨rb, ro, rfl, hc⟩
        · omega
        have c0 := hc j hlj
        obtain ⟨il, ig⟩ := (unhide HIN).2 _ (List.getElem_mem hlj)
        have hlg := ivsR (unhide HO) j hlj
        generalize ys[j] = p at c0 il ig hlg
        obtain ⟨l, g⟩ := p
        simp only at c0 il ig hlg
        obtain ⟨c0, c1⟩ := c0
        clear hc
        unfold In at il ig
        obtain ⟨il0, il1⟩ := il
        obtain ⟨ig0, ig1⟩ := ig
        go_upto_region 9 with fail
        clear c0 c1 p2
        have hg := ((unhide HG).set (Nat.le_refl _) (.int .i64 l) (o := 0)).set (Nat.le_refl _) (.int .i64 g) (o := 1)
        have hi := (unhide HI).stored l g
        clear HG HI b0 b1 f0 f1
        generalize (w1.setCell ⟨bz, 0, none⟩ (.int .i64 l)).setCell ⟨bz, 1, none⟩ (.int .i64 g) = w2 at hg hi ⊢
        have HG := hide hg
        have HI := hide hi
        clear hg hi
        have p1 := (unhide HG).1.2.1
        have b0 := (unhide HI).1
        have b1 := (unhide HI).2.1
        have f0 := (unhide HI).2.2.1 0
        have f1 := (unhide HI).2.2.1 1
        go_wp2_with fail
        refine (byteOf_c a len cap _ (by constructor <;> omega) _ ((unhide HC).below (unhide HG).2.2.2.2.1)).mono ?_
        rintro e w' ⟨⟨n1, rfl, n1a, n1b⟩, hw⟩
        subst w'
        obtain ⟨r1, hr1⟩ : ∃ r, Int.tmod n1 7 = r := ⟨_, rfl⟩
        have r1a : 0 ≤ r1 := by rw [← hr1]; exact Int.tmod_nonneg 7 n1a
        have r1b : r1 ≤ 6 := by have := Int.tmod_lt_of_pos n1 (show (0 : Int) < 7 by omega); omega
        by_cases cl : -4611686018427387904 < l
        · skip
          go_upto_region 12 with fail
          clear p1
          have hg := (unhide HG).set (Nat.le_refl _) (.int .i64 (l - r1)) (o := 0)
          have hi := (unhide HI).st0 (l - r1)
          clear HG HI b0 b1 f0 f1
          generalize w2.setCell ⟨bz, 0, none⟩ (.int .i64 (l - r1)) = w3 at hg hi ⊢
          have HG := hide hg
          have HI := hide hi
          clear hg hi
          have p1 := (unhide HG).1.2.1
          have b0 := (unhide HI).1
          have b1 := (unhide HI).2.1
          have f0 := (unhide HI).2.2.1 0
          have f1 := (unhide HI).2.2.1 1
          go_wp2_with fail
          refine (byteOf_c a len cap _ (by constructor <;> omega) _ ((unhide HC).below (unhide HG).2.2.2.2.1)).mono ?_
          rintro e w' ⟨⟨n2, rfl, n2a, n2b⟩, hw⟩
          subst w'
          obtain ⟨r2, hr2⟩ : ∃ r, Int.tmod n2 7 = r := ⟨_, rfl⟩
          have r2a : 0 ≤ r2 := by rw [← hr2]; exact Int.tmod_nonneg 7 n2a
          have r2b : r2 ≤ 6 := by have := Int.tmod_lt_of_pos n2 (show (0 : Int) < 7 by omega); omega
          by_cases cg : g < 4611686018427387904
          · skip
            go_upto_region 15 with fail
            clear p1
            have hg := (unhide HG).set (Nat.le_refl _) (.int .i64 (g + r2)) (o := 1)
            have hi := (unhide HI).st1 (g + r2)
            clear HG HI b0 b1 f0 f1
            generalize w3.setCell ⟨bz, 1, none⟩ (.int .i64 (g + r2)) = w5 at hg hi ⊢
            have HG := hide hg
            have HI := hide hi
            clear hg hi
            have p1 := (unhide HG).1.2.1
            have b0 := (unhide HI).1
            have b1 := (unhide HI).2.1
            have f0 := (unhide HI).2.2.1 0
            have f1 := (unhide HI).2.2.1 1
            go_upto_region 17 with fail
            clear p1
            have hacc : ys3.length ≤ 1000 := by have := unhide HK; have := unhide HM; omega
            have haccI : (ys3.length : Int) ≤ 1000 := by omega
            have o1 := (unhide HG).2.2.1.2.2.1
            have o1' := ((unhide HG).alloc (Obj.cells #[.int .i64 (l - r1), .int .i64 (g + r2)] 67)).2.2.1.2.2.1
            have hbw : w.heap.size + 3 ≤ w5.heap.size := by have := (unhide HG).2.2.2.2.2; have := (unhide HG).2.2.2.1.2.2.2; omega
            have hlow := hg_low (unhide HG)
            go_wp2_with (at_builtin; refine wpList_app2 _ rfl _ _ 28 rfl (w.heap.size + 3) 67 inf (.agg #[.int .i64 0, .int .i64 0]) 2 16 Tryd.underlying28 hi hz0 hz1 hz2 rfl (by decide) _ _ _ rfl (World.ownsRow.alloc (unhide HG).2.2.2.1.1.2.1 _) ⟨_, 0, none⟩ 1 1 [.int .i64 (l - r1), .int .i64 (g + r2)] rfl rfl (World.news_of_block (heap_alloc_new _ _)) (one2' _ _) (by unfold maxLen; omega) (by omega) (by simp; omega) ?_; intro o' c' w6 hown hgrow hloc; clear o1 o1' b0 b1 f0 f1; obtain ⟨hp2, hc2⟩ := GrT.app2 ((unhide HG).alloc (Obj.cells #[.int .i64 (l - r1), .int .i64 (g + r2)] 67)) hown hgrow hloc; have HP2 := hide hp2; have q0 := hc2.1; have q1 := hc2.2.1; have q2 := hc2.2.2.1; have v0 := hc2.2.2.2 0; have v1 := hc2.2.2.2 1; have v2 := hc2.2.2.2 2; clear hp2 hc2 hown hgrow hloc)
            go_roundw
            case rel => exact ⟨xs.length + j + 1, xs3, ys3 ++ [(l - r1, g + r2)], oa, ca, o', c', _, by go_num, by have := unhide HQ; simp; omega, by have := unhide HQ; omega, by have := unhide HQ; simp; omega, .inr (unhide HQ).1, unhide HP2, (unhide HV).1, ivs_snoc (unhide HV).2 (by omega)⟩
            case measure => simp [intOf]; omega
          · skip
            go_upto_region 15 with fail
            clear p1
            generalize w3 = w5 at HG HI b0 b1 f0 f1 ⊢
            clear b0 b1 f0 f1
            have p1 := (unhide HG).1.2.1
            have b0 := (unhide HI).1
            have b1 := (unhide HI).2.1
            have f0 := (unhide HI).2.2.1 0
            have f1 := (unhide HI).2.2.1 1
            go_upto_region 17 with fail
            clear p1
            have hacc : ys3.length ≤ 1000 := by have := unhide HK; have := unhide HM; omega
            have haccI : (ys3.length : Int) ≤ 1000 := by omega
            have o1 := (unhide HG).2.2.1.2.2.1
            have o1' := ((unhide HG).alloc (Obj.cells #[.int .i64 (l - r1), .int .i64 (g)] 67)).2.2.1.2.2.1
            have hbw : w.heap.size + 3 ≤ w5.heap.size := by have := (unhide HG).2.2.2.2.2; have := (unhide HG).2.2.2.1.2.2.2; omega
            have hlow := hg_low (unhide HG)
            go_wp2_with (at_builtin; refine wpList_app2 _ rfl _ _ 28 rfl (w.heap.size + 3) 67 inf (.agg #[.int .i64 0, .int .i64 0]) 2 16 Tryd.underlying28 hi hz0 hz1 hz2 rfl (by decide) _ _ _ rfl (World.ownsRow.alloc (unhide HG).2.2.2.1.1.2.1 _) ⟨_, 0, none⟩ 1 1 [.int .i64 (l - r1), .int .i64 (g)] rfl rfl (World.news_of_block (heap_alloc_new _ _)) (one2' _ _) (by unfold maxLen; omega) (by omega) (by simp; omega) ?_; intro o' c' w6 hown hgrow hloc; clear o1 o1' b0 b1 f0 f1; obtain ⟨hp2, hc2⟩ := GrT.app2 ((unhide HG).alloc (Obj.cells #[.int .i64 (l - r1), .int .i64 (g)] 67)) hown hgrow hloc; have HP2 := hide hp2; have q0 := hc2.1; have q1 := hc2.2.1; have q2 := hc2.2.2.1; have v0 := hc2.2.2.2 0; have v1 := hc2.2.2.2 1; have v2 := hc2.2.2.2 2; clear hp2 hc2 hown hgrow hloc)
            go_roundw
            case rel => exact ⟨xs.length + j + 1, xs3, ys3 ++ [(l - r1, g)], oa, ca, o', c', _, by go_num, by have := unhide HQ; simp; omega, by have := unhide HQ; omega, by have := unhide HQ; simp; omega, .inr (unhide HQ).1, unhide HP2, (unhide HV).1, ivs_snoc (unhide HV).2 (by omega)⟩
            case measure => simp [intOf]; omega
        · skip
          go_upto_region 12 with fail
          clear p1
          generalize w2 = w3 at HG HI b0 b1 f0 f1 ⊢
          clear b0 b1 f0 f1
          have p1 := (unhide HG).1.2.1
          have b0 := (unhide HI).1
          have b1 := (unhide HI).2.1
          have f0 := (unhide HI).2.2.1 0
          have f1 := (unhide HI).2.2.1 1
          go_wp2_with fail
          refine (byteOf_c a len cap _ (by constructor <;> omega) _ ((unhide HC).below (unhide HG).2.2.2.2.1)).mono ?_
          rintro e w' ⟨⟨n2, rfl, n2a, n2b⟩, hw⟩
          subst w'
          obtain ⟨r2, hr2⟩ : ∃ r, Int.tmod n2 7 = r := ⟨_, rfl⟩
          have r2a : 0 ≤ r2 := by rw [← hr2]; exact Int.tmod_nonneg 7 n2a
          have r2b : r2 ≤ 6 := by have := Int.tmod_lt_of_pos n2 (show (0 : Int) < 7 by omega); omega
          by_cases cg : g < 4611686018427387904
          · skip
            go_upto_region 15 with fail
            clear p1
            have hg := (unhide HG).set (Nat.le_refl _) (.int .i64 (g + r2)) (o := 1)
            have hi := (unhide HI).st1 (g + r2)
            clear HG HI b0 b1 f0 f1
            generalize w3.setCell ⟨bz, 1, none⟩ (.int .i64 (g + r2)) = w5 at hg hi ⊢
            have HG := hide hg
            have HI := hide hi
            clear hg hi
            have p1 := (unhide HG).1.2.1
            have b0 := (unhide HI).1
            have b1 := (unhide HI).2.1
            have f0 := (unhide HI).2.2.1 0
            have f1 := (unhide HI).2.2.1 1
            go_upto_region 17 with fail
            clear p1
            have hacc : ys3.length ≤ 1000 := by have := unhide HK; have := unhide HM; omega
            have haccI : (ys3.length : Int) ≤ 1000 := by omega
            have o1 := (unhide HG).2.2.1.2.2.1
            have o1' := ((unhide HG).alloc (Obj.cells #[.int .i64 (l), .int .i64 (g + r2)] 67)).2.2.1.2.2.1
            have hbw : w.heap.size + 3 ≤ w5.heap.size := by have := (unhide HG).2.2.2.2.2; have := (unhide HG).2.2.2.1.2.2.2; omega
            have hlow := hg_low (unhide HG)
            go_wp2_with (at_builtin; refine wpList_app2 _ rfl _ _ 28 rfl (w.heap.size + 3) 67 inf (.agg #[.int .i64 0, .int .i64 0]) 2 16 Tryd.underlying28 hi hz0 hz1 hz2 rfl (by decide) _ _ _ rfl (World.ownsRow.alloc (unhide HG).2.2.2.1.1.2.1 _) ⟨_, 0, none⟩ 1 1 [.int .i64 (l), .int .i64 (g + r2)] rfl rfl (World.news_of_block (heap_alloc_new _ _)) (one2' _ _) (by unfold maxLen; omega) (by omega) (by simp; omega) ?_; intro o' c' w6 hown hgrow hloc; clear o1 o1' b0 b1 f0 f1; obtain ⟨hp2, hc2⟩ := GrT.app2 ((unhide HG).alloc (Obj.cells #[.int .i64 (l), .int .i64 (g + r2)] 67)) hown hgrow hloc; have HP2 := hide hp2; have q0 := hc2.1; have q1 := hc2.2.1; have q2 := hc2.2.2.1; have v0 := hc2.2.2.2 0; have v1 := hc2.2.2.2 1; have v2 := hc2.2.2.2 2; clear hp2 hc2 hown hgrow hloc)
            go_roundw
            case rel => exact ⟨xs.length + j + 1, xs3, ys3 ++ [(l, g + r2)], oa, ca, o', c', _, by go_num, by have := unhide HQ; simp; omega, by have := unhide HQ; omega, by have := unhide HQ; simp; omega, .inr (unhide HQ).1, unhide HP2, (unhide HV).1, ivs_snoc (unhide HV).2 (by omega)⟩
            case measure => simp [intOf]; omega
          · skip
            go_upto_region 15 with fail
            clear p1
            generalize w3 = w5 at HG HI b0 b1 f0 f1 ⊢
            clear b0 b1 f0 f1
            have p1 := (unhide HG).1.2.1
            have b0 := (unhide HI).1
            have b1 := (unhide HI).2.1
            have f0 := (unhide HI).2.2.1 0
            have f1 := (unhide HI).2.2.1 1
            go_upto_region 17 with fail
            clear p1
            have hacc : ys3.length ≤ 1000 := by have := unhide HK; have := unhide HM; omega
            have haccI : (ys3.length : Int) ≤ 1000 := by omega
            have o1 := (unhide HG).2.2.1.2.2.1
            have o1' := ((unhide HG).alloc (Obj.cells #[.int .i64 (l), .int .i64 (g)] 67)).2.2.1.2.2.1
            have hbw : w.heap.size + 3 ≤ w5.heap.size := by have := (unhide HG).2.2.2.2.2; have := (unhide HG).2.2.2.1.2.2.2; omega
            have hlow := hg_low (unhide HG)
            go_wp2_with (at_builtin; refine wpList_app2 _ rfl _ _ 28 rfl (w.heap.size + 3) 67 inf (.agg #[.int .i64 0, .int .i64 0]) 2 16 Tryd.underlying28 hi hz0 hz1 hz2 rfl (by decide) _ _ _ rfl (World.ownsRow.alloc (unhide HG).2.2.2.1.1.2.1 _) ⟨_, 0, none⟩ 1 1 [.int .i64 (l), .int .i64 (g)] rfl rfl (World.news_of_block (heap_alloc_new _ _)) (one2' _ _) (by unfold maxLen; omega) (by omega) (by simp; omega) ?_; intro o' c' w6 hown hgrow hloc; clear o1 o1' b0 b1 f0 f1; obtain ⟨hp2, hc2⟩ := GrT.app2 ((unhide HG).alloc (Obj.cells #[.int .i64 (l), .int .i64 (g)] 67)) hown hgrow hloc; have HP2 := hide hp2; have q0 := hc2.1; have q1 := hc2.2.1; have q2 := hc2.2.2.1; have v0 := hc2.2.2.2 0; have v1 := hc2.2.2.2 1; have v2 := hc2.2.2.2 2; clear hp2 hc2 hown hgrow hloc)
            go_roundw
            case rel => exact ⟨xs.length + j + 1, xs3, ys3 ++ [(l, g)], oa, ca, o', c', _, by go_num, by have := unhide HQ; simp; omega, by have := unhide HQ; omega, by have := unhide HQ; simp; omega, .inr (unhide HQ).1, unhide HP2, (unhide HV).1, ivs_snoc (unhide HV).2 (by omega)⟩
            case measure => simp [intOf]; omega
    · have hkc : ¬ (k : Int) < (xs.length : Int) + (ys.length : Int) := by omega
      have o0 := (unhide HG).2.2.1.1
      have o1 := (unhide HG).2.2.1.2.1
      have o2 := (unhide HG).2.2.1.2.2.1
      have r0 := (unhide HG).2.1.1
      have r1 := (unhide HG).2.1.2.1
      have r2 := (unhide HG).2.1.2.2.1
      have f0 := (unhide HG).2.1.2.2.2 0
      have f1 := (unhide HG).2.1.2.2.2 1
      have f2 := (unhide HG).2.1.2.2.2 2
      go_wp2
      refine bodyPost_ret (v := .agg #[.bool true, .slice oa xs3.length ca, .slice ob ys3.length cb]) (by simp [results, Tryd.results26, go_sem, r0, r1, r2]) rfl ⟨oa, ca, ob, cb, xs3, ys3, rfl, ?_, by have := unhide HK; have := unhide HM; omega, ivs_app (unhide HV).1 (unhide HV).2, ((((unhide HG).2.2.2.2.1.setCell (Nat.le_add_right _ _) _).setCell (Nat.le_add_right _ _) _).setCell (Nat.le_add_right _ _) _)⟩
      exact RowsE.down ((((unhide HG).2.2.2.1.1.set (by omega)).set (by omega)).set (by omega)) (B' := w.heap.size) (by omega)
end Go.Proofs.YtoipaejbkcdioaaDoor
