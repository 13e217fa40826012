/- The program's rows of corners. -/
import Derived.Test.YtfnedaidljppnaaOpA
import Derived.Deep.LoopGhost
import Derived.WalkSpells
import Derived.Laws.EntriesVeiled
namespace Go.Proofs.Ytfnedaidljppnaa
open Go.RowKit Go.Iv
set_option linter.unusedSimpArgs false

theorem numberOps_c (w : World) : Calls Try.prog 64 #[] w fun e w' => e = .returned (.agg #[.func (.func 33) #[] #[], .func (.func 34) #[] #[], .func (.func 35) #[] #[], .func (.func 36) #[] #[]]) ∧ ∃ o, w' = w.alloc o := by
  go_enter Try.func64, Try.ntmps64
  go_wp2
  exact bodyPost_ret (v := .agg #[.func (.func 33) #[] #[], .func (.func 34) #[] #[], .func (.func 35) #[] #[], .func (.func 36) #[] #[]]) (by simp [results, Try.results64, go_sem]) rfl ⟨rfl, _, rfl⟩

theorem cornerInfo : (Try.prog.info? 77).map (fun i => (i.zero, i.size, i.bytes)) = some (some (.agg #[.int .i64 0, .int .i64 0]), 2, 16) := by kernel_rfl
theorem own_ne {w : World} {base : Nat} {e t : TypeId} {size n b : Nat} {v : Value} {xs : List Value} {cs : Array Value} {fz : Nat × Nat} (h : w.ownsRow base e size v n xs) (hb : w.heap[b]? = some (.cells cs t fz)) (hne : t ≠ e) : v.ownBlock ≠ some b := by
  intro he
  rcases h.2 with ⟨rfl, _⟩ | ⟨g, cap, cur, rfl, _, hg, _⟩
  · simp [Value.ownBlock] at he
  · simp [Value.ownBlock] at he
    subst he
    rw [hg] at hb
    simp at hb
    exact hne hb.2.1.symm
theorem cell_of_block {w : World} {b o : Nat} {cs : Array Value} {t : TypeId} {fz : Nat × Nat} (hb : w.heap[b]? = some (.cells cs t fz)) : w.cell? ⟨b, o, none⟩ = cs[o]? := by
  unfold World.cell?; rw [hb]; rfl

/-- The cells of a row of corners, one more. -/
theorem cellsC_snoc (xs E : List Int) (k : Nat) (h : k < E.length) : cellsC (xs ++ E.take k) ++ [.int .i64 (clN E[k]), .int .i64 (clO E[k])] = cellsC (xs ++ E.take (k + 1)) := by
  rw [List.take_succ_eq_append_getElem h, ← List.append_assoc, cellsC_app (xs ++ E.take k)]
  rfl

/-- What the two loops know. -/
def Rel (w : World) (base : Nat) (xs E : List Int) (al ah bl bh : Int) (l : Value) (k : Nat) (wr : World) : Prop :=
  wr.ownsRow base 77 2 l (xs.length + k) (cellsC (xs ++ E.take k)) ∧ wr.heap[w.heap.size]? = some (.cells #[.int .i64 al, .int .i64 ah] 25 (0, 0)) ∧ wr.heap[w.heap.size + 1]? = some (.cells #[.int .i64 bl, .int .i64 bh] 25 (0, 0)) ∧ Below base w wr ∧ w.heap.size + 2 ≤ wr.heap.size
theorem Rel.step {w : World} {base : Nat} {xs E : List Int} {al ah bl bh : Int} {l v' : Value} {k : Nat} {wr w1 : World} {o : Obj} (h : Rel w base xs E al ah bl bh l k wr) (hbase : base ≤ w.heap.size) (hk : k < E.length) {e : Int} (he : E[k] = e)
    (hown : w1.ownsRow base 77 2 v' (xs.length + k + 1) (cellsC (xs ++ E.take k) ++ [.int .i64 (clN e), .int .i64 (clO e)])) (hg : (wr.alloc o).grownBy w1 l.ownBlock) : Rel w base xs E al ah bl bh v' (k + 1) w1 := by
  obtain ⟨ho, hA, hB, hb, hz⟩ := h
  have hsz : (wr.alloc o).heap.size = wr.heap.size + 1 := by simp
  have hs2 := hg.size
  subst he
  refine ⟨by rw [← cellsC_snoc xs E k hk]; exact hown, ?_, ?_, ?_, by omega⟩
  · rw [hg.block w.heap.size (by omega) (fun e => own_ne ho hA (by decide) e.symm), Below.heap_alloc wr o _ (by omega)]; exact hA
  · rw [hg.block (w.heap.size + 1) (by omega) (fun e => own_ne ho hB (by decide) e.symm), Below.heap_alloc wr o _ (by omega)]; exact hB
  · exact (hb.alloc (by omega) o).grown hg (by omega) (fun j hj => (ho.lt j hj).1)
theorem Rel.drewN {w : World} {base : Nat} {xs E : List Int} {al ah bl bh : Int} {l : Value} {k : Nat} {wr : World} (h : Rel w base xs E al ah bl bh l k wr) (m : Nat) : Rel w base xs E al ah bl bh l k (wr.drewN m) :=
  ⟨h.1, h.2.1, h.2.2.1, below_drewN h.2.2.2.1 m, h.2.2.2.2⟩

set_option maxHeartbeats 2000000 in
theorem wc0 (v : Value) (xs : List Int) (al ah bl bh : Int) (base : Nat) (w : World) (hown : w.ownsRow base 77 2 v xs.length (cellsC xs)) (hn : xs.length ≤ 4) (hbase : base ≤ w.heap.size) (hal : In al) (hah : In ah) (hbl : In bl) (hbh : In bh) :
    Calls Try.prog 48 #[v, .int .i64 0, .agg #[.int .i64 al, .int .i64 ah], .agg #[.int .i64 bl, .int .i64 bh]] w fun e w' => ∃ v', e = .returned v' ∧ w'.ownsRow base 77 2 v' (xs.length + 4) (cellsC (xs ++ [al + bl, al + bh, ah + bl, ah + bh])) ∧ Below base w w' := by
  have i0 : ∀ w, (Instr.index 73 (.agg #[.func (.func 33) #[] #[], .func (.func 34) #[] #[], .func (.func 35) #[] #[], .func (.func 36) #[] #[]]) (.int .i64 0)).run Try.prog w = .ok (.func (.func 33) #[] #[]) w := fun _ => by kernel_rfl
  have ix0 : ∀ (x y : Int) w, (Instr.index 75 (.agg #[.int .i64 x, .int .i64 y]) (.int .i64 0)).run Try.prog w = .ok (.int .i64 x) w := fun _ _ _ => by kernel_rfl
  have ix1 : ∀ (x y : Int) w, (Instr.index 75 (.agg #[.int .i64 x, .int .i64 y]) (.int .i64 1)).run Try.prog w = .ok (.int .i64 y) w := fun _ _ _ => by kernel_rfl
  obtain ⟨inf, hi, hz0, hz1, hz2⟩ := info_parts cornerInfo
  have HI : Hid (In al ∧ In ah ∧ In bl ∧ In bh) := ⟨hal, hah, hbl, hbh⟩
  obtain ⟨E, hE⟩ : ∃ E : List Int, E = [al + bl, al + bh, ah + bl, ah + bh] := ⟨_, rfl⟩
  have HE := hide hE
  rw [← hE]
  have RL : ∀ o, Rel w base xs E al ah bl bh v 0 (((w.alloc (Obj.cells #[.int .i64 al, .int .i64 ah] 25)).alloc (Obj.cells #[.int .i64 bl, .int .i64 bh] 25)).alloc o) := by
    intro o
    refine ⟨?_, ?_, ?_, (((Below.refl _ _).alloc hbase _).alloc (by simp; omega) _).alloc (by simp; omega) _, by simp⟩
    · have h3 := ((hown.alloc (Obj.cells #[.int .i64 al, .int .i64 ah] 25)).alloc (Obj.cells #[.int .i64 bl, .int .i64 bh] 25)).alloc o
      simpa using h3
    · rw [Below.heap_alloc _ _ _ (by simp; omega), Below.heap_alloc _ _ _ (by simp)]; exact heap_alloc_new _ _
    · rw [Below.heap_alloc _ _ _ (by simp)]
      have := heap_alloc_new (w.alloc (Obj.cells #[.int .i64 al, .int .i64 ah] 25)) (Obj.cells #[.int .i64 bl, .int .i64 bh] 25)
      simpa using this
  have HRL := hide RL
  clear RL hE hown hal hah hbl hbh
  go_enter Try.func48, Try.ntmps48
  go_wp2_with fail
  refine (numberOps_c _).mono ?_
  rintro e w1 ⟨rfl, o, rfl⟩
  have hr0 := unhide HRL o
  generalize ((w.alloc (Obj.cells #[.int .i64 al, .int .i64 ah] 25)).alloc (Obj.cells #[.int .i64 bl, .int .i64 bh] 25)).alloc o = W at hr0 ⊢
  have c0 : W.cell? ⟨w.heap.size, 0, none⟩ = some (.int .i64 al) := cell_of_block hr0.2.1
  have c1 : W.cell? ⟨w.heap.size, 1, none⟩ = some (.int .i64 ah) := cell_of_block hr0.2.1
  have HR0 := hide hr0
  clear hr0 HRL
  go_wp2
  go_loopw [0, 24] (fun l i wr => ∃ k : Nat, k ≤ 2 ∧ i = .int .i64 k ∧ Rel w base xs E al ah bl bh l (2 * k) wr) (fun _ i _ => 2 - (intOf i).toNat)
  case atStart => exact ⟨0, by decide, rfl, unhide HR0⟩
  case round =>
    clear HR0 c0 c1 W
    obtain ⟨k, hk, rfl, hrel⟩ := hrel
    by_cases hlt : k < 2
    · have c0 : wr.cell? ⟨w.heap.size + 1, 0, none⟩ = some (.int .i64 bl) := cell_of_block hrel.2.2.1
      have c1 : wr.cell? ⟨w.heap.size + 1, 1, none⟩ = some (.int .i64 bh) := cell_of_block hrel.2.2.1
      have HR := hide hrel
      clear hrel
      obtain ⟨x, hx⟩ : ∃ x : Int, x = (if k = 0 then al else ah) := ⟨_, rfl⟩
      have ixk : ∀ w, (Instr.index 75 (.agg #[.int .i64 al, .int .i64 ah]) (.int .i64 (k : Int))).run Try.prog w = .ok (.int .i64 x) w := by
        rcases (show k = 0 ∨ k = 1 by omega) with rfl | rfl
        · intro w; rw [hx]; exact ix0 _ _ w
        · intro w; rw [hx]; exact ix1 _ _ w
      have HX := hide hx
      clear hx
      have hd : decide ((k : Int) < 2) = true := by simp; omega
      obtain ⟨wo, rfl⟩ : ∃ wo : World, wo = wr := ⟨_, rfl⟩
      go_wp2
      go_loopw [0, 32] (fun l j wr => ∃ q : Nat, q ≤ 2 ∧ j = .int .i64 q ∧ Rel w base xs E al ah bl bh l (2 * k + q) wr) (fun _ j _ => 2 - (intOf j).toNat)
      case atStart => exact ⟨0, by decide, rfl, unhide HR⟩
      case round =>
        clear HR c0 c1
        obtain ⟨q, hq, rfl, hrel⟩ := hrel
        by_cases hlt2 : q < 2
        · obtain ⟨y, hy⟩ : ∃ y : Int, y = (if q = 0 then bl else bh) := ⟨_, rfl⟩
          have iyk : ∀ w, (Instr.index 75 (.agg #[.int .i64 bl, .int .i64 bh]) (.int .i64 (q : Int))).run Try.prog w = .ok (.int .i64 y) w := by
            rcases (show q = 0 ∨ q = 1 by omega) with rfl | rfl
            · intro w; rw [hy]; exact ix0 _ _ w
            · intro w; rw [hy]; exact ix1 _ _ w
          have HY := hide hy
          clear hy
          have XI : Hid (In x) := by
            have h4 := HI.out
            rw [unhide HX]; unfold Hid; split
            · exact h4.1
            · exact h4.2.1
          have YI : Hid (In y) := by
            have h4 := HI.out
            rw [unhide HY]; unfold Hid; split
            · exact h4.2.2.1
            · exact h4.2.2.2
          have hEl : 2 * k + q < E.length := by rw [unhide HE]; simp; omega
          have EK : Hid (E[2 * k + q] = x + y) := by
            unfold Hid
            simp only [unhide HE, unhide HX, unhide HY]
            rcases (show k = 0 ∨ k = 1 by omega) with rfl | rfl <;> rcases (show q = 0 ∨ q = 1 by omega) with rfl | rfl <;> rfl
          have HR := hide hrel
          clear hrel
          go_wp2_with fail
          refine (NumAdd_c _ _ XI.out YI.out _).mono ?_
          rintro e w2 ⟨rfl, rfl⟩
          have hr2 := unhide HR
          clear HR
          have hown2 := hr2.1
          have HR2 := hide hr2
          clear hr2
          go_wp2_with (at_builtin; refine wpList_append_own _ rfl _ _ 57 rfl base 77 inf (.agg #[.int .i64 0, .int .i64 0]) 2 16 Try.underlying57 hi hz0 hz1 hz2 rfl (by decide) _ _ _ rfl (hown2.alloc _) ⟨_, 0, none⟩ 1 1 [.int .i64 (clN (x + y)), .int .i64 (clO (x + y))] rfl rfl ?c1 ?c2 ?c3 ?c4 ?c5 ?_)
          case c1 =>
            intro j u hj
            rcases j with _ | _ | j
            · simp at hj; subst hj; simp [Addr.add]
            · simp at hj; subst hj; simp [Addr.add]
            · simp at hj
          case c2 =>
            intro u hu
            simp at hu
            rcases hu with rfl | rfl <;> rfl
          case c3 => unfold maxLen; omega
          case c4 => omega
          case c5 => have := (unhide HR2).2.2.2.2; simp; omega
          intro v' w3 hown3 hgrow _
          have R3 := hide ((unhide HR2).step hbase hEl EK.out hown3 hgrow)
          clear hown3 hgrow HR2 hown2
          go_wp2
          go_roundw
          case rel => exact ⟨q + 1, by omega, by go_num, unhide R3⟩
          case measure => simp [intOf]; omega
        · obtain rfl : q = 2 := by omega
          have HR := hide hrel
          clear hrel
          go_wp2
          go_roundw
          case rel => exact ⟨k + 1, by omega, by go_num, unhide HR⟩
          case measure => simp [intOf]; omega
    · obtain rfl : k = 2 := by omega
      have HR := hide hrel
      clear hrel
      go_wp2
      go_ret
      have h4 := unhide HR
      have e4 : E.take (2 * 2) = E := by rw [unhide HE]; rfl
      rw [Rel, e4] at h4
      exact ⟨_, rfl, h4.1, h4.2.2.2.1⟩

set_option maxHeartbeats 2000000 in
theorem wc1 (v : Value) (xs : List Int) (al ah bl bh : Int) (base : Nat) (w : World) (hown : w.ownsRow base 77 2 v xs.length (cellsC xs)) (hn : xs.length ≤ 4) (hbase : base ≤ w.heap.size) (hal : In al) (hah : In ah) (hbl : In bl) (hbh : In bh) :
    Calls Try.prog 48 #[v, .int .i64 1, .agg #[.int .i64 al, .int .i64 ah], .agg #[.int .i64 bl, .int .i64 bh]] w fun e w' => ∃ v', e = .returned v' ∧ w'.ownsRow base 77 2 v' (xs.length + 4) (cellsC (xs ++ [al - bl, al - bh, ah - bl, ah - bh])) ∧ Below base w w' := by
  have i0 : ∀ w, (Instr.index 73 (.agg #[.func (.func 33) #[] #[], .func (.func 34) #[] #[], .func (.func 35) #[] #[], .func (.func 36) #[] #[]]) (.int .i64 1)).run Try.prog w = .ok (.func (.func 34) #[] #[]) w := fun _ => by kernel_rfl
  have ix0 : ∀ (x y : Int) w, (Instr.index 75 (.agg #[.int .i64 x, .int .i64 y]) (.int .i64 0)).run Try.prog w = .ok (.int .i64 x) w := fun _ _ _ => by kernel_rfl
  have ix1 : ∀ (x y : Int) w, (Instr.index 75 (.agg #[.int .i64 x, .int .i64 y]) (.int .i64 1)).run Try.prog w = .ok (.int .i64 y) w := fun _ _ _ => by kernel_rfl
  obtain ⟨inf, hi, hz0, hz1, hz2⟩ := info_parts cornerInfo
  have HI : Hid (In al ∧ In ah ∧ In bl ∧ In bh) := ⟨hal, hah, hbl, hbh⟩
  obtain ⟨E, hE⟩ : ∃ E : List Int, E = [al - bl, al - bh, ah - bl, ah - bh] := ⟨_, rfl⟩
  have HE := hide hE
  rw [← hE]
  have RL : ∀ o, Rel w base xs E al ah bl bh v 0 (((w.alloc (Obj.cells #[.int .i64 al, .int .i64 ah] 25)).alloc (Obj.cells #[.int .i64 bl, .int .i64 bh] 25)).alloc o) := by
    intro o
    refine ⟨?_, ?_, ?_, (((Below.refl _ _).alloc hbase _).alloc (by simp; omega) _).alloc (by simp; omega) _, by simp⟩
    · have h3 := ((hown.alloc (Obj.cells #[.int .i64 al, .int .i64 ah] 25)).alloc (Obj.cells #[.int .i64 bl, .int .i64 bh] 25)).alloc o
      simpa using h3
    · rw [Below.heap_alloc _ _ _ (by simp; omega), Below.heap_alloc _ _ _ (by simp)]; exact heap_alloc_new _ _
    · rw [Below.heap_alloc _ _ _ (by simp)]
      have := heap_alloc_new (w.alloc (Obj.cells #[.int .i64 al, .int .i64 ah] 25)) (Obj.cells #[.int .i64 bl, .int .i64 bh] 25)
      simpa using this
  have HRL := hide RL
  clear RL hE hown hal hah hbl hbh
  go_enter Try.func48, Try.ntmps48
  go_wp2_with fail
  refine (numberOps_c _).mono ?_
  rintro e w1 ⟨rfl, o, rfl⟩
  have hr0 := unhide HRL o
  generalize ((w.alloc (Obj.cells #[.int .i64 al, .int .i64 ah] 25)).alloc (Obj.cells #[.int .i64 bl, .int .i64 bh] 25)).alloc o = W at hr0 ⊢
  have c0 : W.cell? ⟨w.heap.size, 0, none⟩ = some (.int .i64 al) := cell_of_block hr0.2.1
  have c1 : W.cell? ⟨w.heap.size, 1, none⟩ = some (.int .i64 ah) := cell_of_block hr0.2.1
  have HR0 := hide hr0
  clear hr0 HRL
  go_wp2
  go_loopw [0, 24] (fun l i wr => ∃ k : Nat, k ≤ 2 ∧ i = .int .i64 k ∧ Rel w base xs E al ah bl bh l (2 * k) wr) (fun _ i _ => 2 - (intOf i).toNat)
  case atStart => exact ⟨0, by decide, rfl, unhide HR0⟩
  case round =>
    clear HR0 c0 c1 W
    obtain ⟨k, hk, rfl, hrel⟩ := hrel
    by_cases hlt : k < 2
    · have c0 : wr.cell? ⟨w.heap.size + 1, 0, none⟩ = some (.int .i64 bl) := cell_of_block hrel.2.2.1
      have c1 : wr.cell? ⟨w.heap.size + 1, 1, none⟩ = some (.int .i64 bh) := cell_of_block hrel.2.2.1
      have HR := hide hrel
      clear hrel
      obtain ⟨x, hx⟩ : ∃ x : Int, x = (if k = 0 then al else ah) := ⟨_, rfl⟩
      have ixk : ∀ w, (Instr.index 75 (.agg #[.int .i64 al, .int .i64 ah]) (.int .i64 (k : Int))).run Try.prog w = .ok (.int .i64 x) w := by
        rcases (show k = 0 ∨ k = 1 by omega) with rfl | rfl
        · intro w; rw [hx]; exact ix0 _ _ w
        · intro w; rw [hx]; exact ix1 _ _ w
      have HX := hide hx
      clear hx
      have hd : decide ((k : Int) < 2) = true := by simp; omega
      obtain ⟨wo, rfl⟩ : ∃ wo : World, wo = wr := ⟨_, rfl⟩
      go_wp2
      go_loopw [0, 32] (fun l j wr => ∃ q : Nat, q ≤ 2 ∧ j = .int .i64 q ∧ Rel w base xs E al ah bl bh l (2 * k + q) wr) (fun _ j _ => 2 - (intOf j).toNat)
      case atStart => exact ⟨0, by decide, rfl, unhide HR⟩
      case round =>
        clear HR c0 c1
        obtain ⟨q, hq, rfl, hrel⟩ := hrel
        by_cases hlt2 : q < 2
        · obtain ⟨y, hy⟩ : ∃ y : Int, y = (if q = 0 then bl else bh) := ⟨_, rfl⟩
          have iyk : ∀ w, (Instr.index 75 (.agg #[.int .i64 bl, .int .i64 bh]) (.int .i64 (q : Int))).run Try.prog w = .ok (.int .i64 y) w := by
            rcases (show q = 0 ∨ q = 1 by omega) with rfl | rfl
            · intro w; rw [hy]; exact ix0 _ _ w
            · intro w; rw [hy]; exact ix1 _ _ w
          have HY := hide hy
          clear hy
          have XI : Hid (In x) := by
            have h4 := HI.out
            rw [unhide HX]; unfold Hid; split
            · exact h4.1
            · exact h4.2.1
          have YI : Hid (In y) := by
            have h4 := HI.out
            rw [unhide HY]; unfold Hid; split
            · exact h4.2.2.1
            · exact h4.2.2.2
          have hEl : 2 * k + q < E.length := by rw [unhide HE]; simp; omega
          have EK : Hid (E[2 * k + q] = x - y) := by
            unfold Hid
            simp only [unhide HE, unhide HX, unhide HY]
            rcases (show k = 0 ∨ k = 1 by omega) with rfl | rfl <;> rcases (show q = 0 ∨ q = 1 by omega) with rfl | rfl <;> rfl
          have HR := hide hrel
          clear hrel
          go_wp2_with fail
          refine (NumSub_c _ _ XI.out YI.out _).mono ?_
          rintro e w2 ⟨rfl, rfl⟩
          have hr2 := unhide HR
          clear HR
          have hown2 := hr2.1
          have HR2 := hide hr2
          clear hr2
          go_wp2_with (at_builtin; refine wpList_append_own _ rfl _ _ 57 rfl base 77 inf (.agg #[.int .i64 0, .int .i64 0]) 2 16 Try.underlying57 hi hz0 hz1 hz2 rfl (by decide) _ _ _ rfl (hown2.alloc _) ⟨_, 0, none⟩ 1 1 [.int .i64 (clN (x - y)), .int .i64 (clO (x - y))] rfl rfl ?c1 ?c2 ?c3 ?c4 ?c5 ?_)
          case c1 =>
            intro j u hj
            rcases j with _ | _ | j
            · simp at hj; subst hj; simp [Addr.add]
            · simp at hj; subst hj; simp [Addr.add]
            · simp at hj
          case c2 =>
            intro u hu
            simp at hu
            rcases hu with rfl | rfl <;> rfl
          case c3 => unfold maxLen; omega
          case c4 => omega
          case c5 => have := (unhide HR2).2.2.2.2; simp; omega
          intro v' w3 hown3 hgrow _
          have R3 := hide ((unhide HR2).step hbase hEl EK.out hown3 hgrow)
          clear hown3 hgrow HR2 hown2
          go_wp2
          go_roundw
          case rel => exact ⟨q + 1, by omega, by go_num, unhide R3⟩
          case measure => simp [intOf]; omega
        · obtain rfl : q = 2 := by omega
          have HR := hide hrel
          clear hrel
          go_wp2
          go_roundw
          case rel => exact ⟨k + 1, by omega, by go_num, unhide HR⟩
          case measure => simp [intOf]; omega
    · obtain rfl : k = 2 := by omega
      have HR := hide hrel
      clear hrel
      go_wp2
      go_ret
      have h4 := unhide HR
      have e4 : E.take (2 * 2) = E := by rw [unhide HE]; rfl
      rw [Rel, e4] at h4
      exact ⟨_, rfl, h4.1, h4.2.2.2.1⟩

set_option maxHeartbeats 2000000 in
theorem wc2 (v : Value) (xs : List Int) (al ah bl bh : Int) (base : Nat) (w : World) (hown : w.ownsRow base 77 2 v xs.length (cellsC xs)) (hn : xs.length ≤ 4) (hbase : base ≤ w.heap.size) (hal : In al) (hah : In ah) (hbl : In bl) (hbh : In bh) :
    Calls Try.prog 48 #[v, .int .i64 2, .agg #[.int .i64 al, .int .i64 ah], .agg #[.int .i64 bl, .int .i64 bh]] w fun e w' => ∃ v', e = .returned v' ∧ w'.ownsRow base 77 2 v' (xs.length + 4) (cellsC (xs ++ [al * bl, al * bh, ah * bl, ah * bh])) ∧ Below base w w' := by
  have i0 : ∀ w, (Instr.index 73 (.agg #[.func (.func 33) #[] #[], .func (.func 34) #[] #[], .func (.func 35) #[] #[], .func (.func 36) #[] #[]]) (.int .i64 2)).run Try.prog w = .ok (.func (.func 35) #[] #[]) w := fun _ => by kernel_rfl
  have ix0 : ∀ (x y : Int) w, (Instr.index 75 (.agg #[.int .i64 x, .int .i64 y]) (.int .i64 0)).run Try.prog w = .ok (.int .i64 x) w := fun _ _ _ => by kernel_rfl
  have ix1 : ∀ (x y : Int) w, (Instr.index 75 (.agg #[.int .i64 x, .int .i64 y]) (.int .i64 1)).run Try.prog w = .ok (.int .i64 y) w := fun _ _ _ => by kernel_rfl
  obtain ⟨inf, hi, hz0, hz1, hz2⟩ := info_parts cornerInfo
  have HI : Hid (In al ∧ In ah ∧ In bl ∧ In bh) := ⟨hal, hah, hbl, hbh⟩
  obtain ⟨E, hE⟩ : ∃ E : List Int, E = [al * bl, al * bh, ah * bl, ah * bh] := ⟨_, rfl⟩
  have HE := hide hE
  rw [← hE]
  have RL : ∀ o, Rel w base xs E al ah bl bh v 0 (((w.alloc (Obj.cells #[.int .i64 al, .int .i64 ah] 25)).alloc (Obj.cells #[.int .i64 bl, .int .i64 bh] 25)).alloc o) := by
    intro o
    refine ⟨?_, ?_, ?_, (((Below.refl _ _).alloc hbase _).alloc (by simp; omega) _).alloc (by simp; omega) _, by simp⟩
    · have h3 := ((hown.alloc (Obj.cells #[.int .i64 al, .int .i64 ah] 25)).alloc (Obj.cells #[.int .i64 bl, .int .i64 bh] 25)).alloc o
      simpa using h3
    · rw [Below.heap_alloc _ _ _ (by simp; omega), Below.heap_alloc _ _ _ (by simp)]; exact heap_alloc_new _ _
    · rw [Below.heap_alloc _ _ _ (by simp)]
      have := heap_alloc_new (w.alloc (Obj.cells #[.int .i64 al, .int .i64 ah] 25)) (Obj.cells #[.int .i64 bl, .int .i64 bh] 25)
      simpa using this
  have HRL := hide RL
  clear RL hE hown hal hah hbl hbh
  go_enter Try.func48, Try.ntmps48
  go_wp2_with fail
  refine (numberOps_c _).mono ?_
  rintro e w1 ⟨rfl, o, rfl⟩
  have hr0 := unhide HRL o
  generalize ((w.alloc (Obj.cells #[.int .i64 al, .int .i64 ah] 25)).alloc (Obj.cells #[.int .i64 bl, .int .i64 bh] 25)).alloc o = W at hr0 ⊢
  have c0 : W.cell? ⟨w.heap.size, 0, none⟩ = some (.int .i64 al) := cell_of_block hr0.2.1
  have c1 : W.cell? ⟨w.heap.size, 1, none⟩ = some (.int .i64 ah) := cell_of_block hr0.2.1
  have HR0 := hide hr0
  clear hr0 HRL
  go_wp2
  go_loopw [0, 24] (fun l i wr => ∃ k : Nat, k ≤ 2 ∧ i = .int .i64 k ∧ Rel w base xs E al ah bl bh l (2 * k) wr) (fun _ i _ => 2 - (intOf i).toNat)
  case atStart => exact ⟨0, by decide, rfl, unhide HR0⟩
  case round =>
    clear HR0 c0 c1 W
    obtain ⟨k, hk, rfl, hrel⟩ := hrel
    by_cases hlt : k < 2
    · have c0 : wr.cell? ⟨w.heap.size + 1, 0, none⟩ = some (.int .i64 bl) := cell_of_block hrel.2.2.1
      have c1 : wr.cell? ⟨w.heap.size + 1, 1, none⟩ = some (.int .i64 bh) := cell_of_block hrel.2.2.1
      have HR := hide hrel
      clear hrel
      obtain ⟨x, hx⟩ : ∃ x : Int, x = (if k = 0 then al else ah) := ⟨_, rfl⟩
      have ixk : ∀ w, (Instr.index 75 (.agg #[.int .i64 al, .int .i64 ah]) (.int .i64 (k : Int))).run Try.prog w = .ok (.int .i64 x) w := by
        rcases (show k = 0 ∨ k = 1 by omega) with rfl | rfl
        · intro w; rw [hx]; exact ix0 _ _ w
        · intro w; rw [hx]; exact ix1 _ _ w
      have HX := hide hx
      clear hx
      have hd : decide ((k : Int) < 2) = true := by simp; omega
      obtain ⟨wo, rfl⟩ : ∃ wo : World, wo = wr := ⟨_, rfl⟩
      go_wp2
      go_loopw [0, 32] (fun l j wr => ∃ q : Nat, q ≤ 2 ∧ j = .int .i64 q ∧ Rel w base xs E al ah bl bh l (2 * k + q) wr) (fun _ j _ => 2 - (intOf j).toNat)
      case atStart => exact ⟨0, by decide, rfl, unhide HR⟩
      case round =>
        clear HR c0 c1
        obtain ⟨q, hq, rfl, hrel⟩ := hrel
        by_cases hlt2 : q < 2
        · obtain ⟨y, hy⟩ : ∃ y : Int, y = (if q = 0 then bl else bh) := ⟨_, rfl⟩
          have iyk : ∀ w, (Instr.index 75 (.agg #[.int .i64 bl, .int .i64 bh]) (.int .i64 (q : Int))).run Try.prog w = .ok (.int .i64 y) w := by
            rcases (show q = 0 ∨ q = 1 by omega) with rfl | rfl
            · intro w; rw [hy]; exact ix0 _ _ w
            · intro w; rw [hy]; exact ix1 _ _ w
          have HY := hide hy
          clear hy
          have XI : Hid (In x) := by
            have h4 := HI.out
            rw [unhide HX]; unfold Hid; split
            · exact h4.1
            · exact h4.2.1
          have YI : Hid (In y) := by
            have h4 := HI.out
            rw [unhide HY]; unfold Hid; split
            · exact h4.2.2.1
            · exact h4.2.2.2
          have hEl : 2 * k + q < E.length := by rw [unhide HE]; simp; omega
          have EK : Hid (E[2 * k + q] = x * y) := by
            unfold Hid
            simp only [unhide HE, unhide HX, unhide HY]
            rcases (show k = 0 ∨ k = 1 by omega) with rfl | rfl <;> rcases (show q = 0 ∨ q = 1 by omega) with rfl | rfl <;> rfl
          have HR := hide hrel
          clear hrel
          go_wp2_with fail
          refine (NumMul_c _ _ XI.out YI.out _).mono ?_
          rintro e w2 ⟨rfl, rfl⟩
          have hr2 := unhide HR
          clear HR
          have hown2 := hr2.1
          have HR2 := hide hr2
          clear hr2
          go_wp2_with (at_builtin; refine wpList_append_own _ rfl _ _ 57 rfl base 77 inf (.agg #[.int .i64 0, .int .i64 0]) 2 16 Try.underlying57 hi hz0 hz1 hz2 rfl (by decide) _ _ _ rfl (hown2.alloc _) ⟨_, 0, none⟩ 1 1 [.int .i64 (clN (x * y)), .int .i64 (clO (x * y))] rfl rfl ?c1 ?c2 ?c3 ?c4 ?c5 ?_)
          case c1 =>
            intro j u hj
            rcases j with _ | _ | j
            · simp at hj; subst hj; simp [Addr.add]
            · simp at hj; subst hj; simp [Addr.add]
            · simp at hj
          case c2 =>
            intro u hu
            simp at hu
            rcases hu with rfl | rfl <;> rfl
          case c3 => unfold maxLen; omega
          case c4 => omega
          case c5 => have := (unhide HR2).2.2.2.2; simp; omega
          intro v' w3 hown3 hgrow _
          have R3 := hide ((unhide HR2).step hbase hEl EK.out hown3 hgrow)
          clear hown3 hgrow HR2 hown2
          go_wp2
          go_roundw
          case rel => exact ⟨q + 1, by omega, by go_num, unhide R3⟩
          case measure => simp [intOf]; omega
        · obtain rfl : q = 2 := by omega
          have HR := hide hrel
          clear hrel
          go_wp2
          go_roundw
          case rel => exact ⟨k + 1, by omega, by go_num, unhide HR⟩
          case measure => simp [intOf]; omega
    · obtain rfl : k = 2 := by omega
      have HR := hide hrel
      clear hrel
      go_wp2
      go_ret
      have h4 := unhide HR
      have e4 : E.take (2 * 2) = E := by rw [unhide HE]; rfl
      rw [Rel, e4] at h4
      exact ⟨_, rfl, h4.1, h4.2.2.2.1⟩

set_option maxHeartbeats 2000000 in
theorem wc3 (v : Value) (xs : List Int) (al ah bl bh : Int) (base : Nat) (w : World) (hown : w.ownsRow base 77 2 v xs.length (cellsC xs)) (hn : xs.length ≤ 4) (hbase : base ≤ w.heap.size) (hal : In al) (hah : In ah) (hbl : In bl) (hbh : In bh) (nbl : bl ≠ 0) (nbh : bh ≠ 0) :
    Calls Try.prog 48 #[v, .int .i64 3, .agg #[.int .i64 al, .int .i64 ah], .agg #[.int .i64 bl, .int .i64 bh]] w fun e w' => ∃ v', e = .returned v' ∧ w'.ownsRow base 77 2 v' (xs.length + 4) (cellsC (xs ++ [al.tdiv bl, al.tdiv bh, ah.tdiv bl, ah.tdiv bh])) ∧ Below base w w' := by
  have i0 : ∀ w, (Instr.index 73 (.agg #[.func (.func 33) #[] #[], .func (.func 34) #[] #[], .func (.func 35) #[] #[], .func (.func 36) #[] #[]]) (.int .i64 3)).run Try.prog w = .ok (.func (.func 36) #[] #[]) w := fun _ => by kernel_rfl
  have ix0 : ∀ (x y : Int) w, (Instr.index 75 (.agg #[.int .i64 x, .int .i64 y]) (.int .i64 0)).run Try.prog w = .ok (.int .i64 x) w := fun _ _ _ => by kernel_rfl
  have ix1 : ∀ (x y : Int) w, (Instr.index 75 (.agg #[.int .i64 x, .int .i64 y]) (.int .i64 1)).run Try.prog w = .ok (.int .i64 y) w := fun _ _ _ => by kernel_rfl
  obtain ⟨inf, hi, hz0, hz1, hz2⟩ := info_parts cornerInfo
  have HI : Hid (In al ∧ In ah ∧ In bl ∧ In bh) := ⟨hal, hah, hbl, hbh⟩
  obtain ⟨E, hE⟩ : ∃ E : List Int, E = [al.tdiv bl, al.tdiv bh, ah.tdiv bl, ah.tdiv bh] := ⟨_, rfl⟩
  have HE := hide hE
  rw [← hE]
  have RL : ∀ o, Rel w base xs E al ah bl bh v 0 (((w.alloc (Obj.cells #[.int .i64 al, .int .i64 ah] 25)).alloc (Obj.cells #[.int .i64 bl, .int .i64 bh] 25)).alloc o) := by
    intro o
    refine ⟨?_, ?_, ?_, (((Below.refl _ _).alloc hbase _).alloc (by simp; omega) _).alloc (by simp; omega) _, by simp⟩
    · have h3 := ((hown.alloc (Obj.cells #[.int .i64 al, .int .i64 ah] 25)).alloc (Obj.cells #[.int .i64 bl, .int .i64 bh] 25)).alloc o
      simpa using h3
    · rw [Below.heap_alloc _ _ _ (by simp; omega), Below.heap_alloc _ _ _ (by simp)]; exact heap_alloc_new _ _
    · rw [Below.heap_alloc _ _ _ (by simp)]
      have := heap_alloc_new (w.alloc (Obj.cells #[.int .i64 al, .int .i64 ah] 25)) (Obj.cells #[.int .i64 bl, .int .i64 bh] 25)
      simpa using this
  have HRL := hide RL
  clear RL hE hown hal hah hbl hbh
  go_enter Try.func48, Try.ntmps48
  go_wp2_with fail
  refine (numberOps_c _).mono ?_
  rintro e w1 ⟨rfl, o, rfl⟩
  have hr0 := unhide HRL o
  generalize ((w.alloc (Obj.cells #[.int .i64 al, .int .i64 ah] 25)).alloc (Obj.cells #[.int .i64 bl, .int .i64 bh] 25)).alloc o = W at hr0 ⊢
  have c0 : W.cell? ⟨w.heap.size, 0, none⟩ = some (.int .i64 al) := cell_of_block hr0.2.1
  have c1 : W.cell? ⟨w.heap.size, 1, none⟩ = some (.int .i64 ah) := cell_of_block hr0.2.1
  have HR0 := hide hr0
  clear hr0 HRL
  go_wp2
  go_loopw [0, 24] (fun l i wr => ∃ k : Nat, k ≤ 2 ∧ i = .int .i64 k ∧ Rel w base xs E al ah bl bh l (2 * k) wr) (fun _ i _ => 2 - (intOf i).toNat)
  case atStart => exact ⟨0, by decide, rfl, unhide HR0⟩
  case round =>
    clear HR0 c0 c1 W
    obtain ⟨k, hk, rfl, hrel⟩ := hrel
    by_cases hlt : k < 2
    · have c0 : wr.cell? ⟨w.heap.size + 1, 0, none⟩ = some (.int .i64 bl) := cell_of_block hrel.2.2.1
      have c1 : wr.cell? ⟨w.heap.size + 1, 1, none⟩ = some (.int .i64 bh) := cell_of_block hrel.2.2.1
      have HR := hide hrel
      clear hrel
      obtain ⟨x, hx⟩ : ∃ x : Int, x = (if k = 0 then al else ah) := ⟨_, rfl⟩
      have ixk : ∀ w, (Instr.index 75 (.agg #[.int .i64 al, .int .i64 ah]) (.int .i64 (k : Int))).run Try.prog w = .ok (.int .i64 x) w := by
        rcases (show k = 0 ∨ k = 1 by omega) with rfl | rfl
        · intro w; rw [hx]; exact ix0 _ _ w
        · intro w; rw [hx]; exact ix1 _ _ w
      have HX := hide hx
      clear hx
      have hd : decide ((k : Int) < 2) = true := by simp; omega
      obtain ⟨wo, rfl⟩ : ∃ wo : World, wo = wr := ⟨_, rfl⟩
      go_wp2
      go_loopw [0, 32] (fun l j wr => ∃ q : Nat, q ≤ 2 ∧ j = .int .i64 q ∧ Rel w base xs E al ah bl bh l (2 * k + q) wr) (fun _ j _ => 2 - (intOf j).toNat)
      case atStart => exact ⟨0, by decide, rfl, unhide HR⟩
      case round =>
        clear HR c0 c1
        obtain ⟨q, hq, rfl, hrel⟩ := hrel
        by_cases hlt2 : q < 2
        · obtain ⟨y, hy⟩ : ∃ y : Int, y = (if q = 0 then bl else bh) := ⟨_, rfl⟩
          have iyk : ∀ w, (Instr.index 75 (.agg #[.int .i64 bl, .int .i64 bh]) (.int .i64 (q : Int))).run Try.prog w = .ok (.int .i64 y) w := by
            rcases (show q = 0 ∨ q = 1 by omega) with rfl | rfl
            · intro w; rw [hy]; exact ix0 _ _ w
            · intro w; rw [hy]; exact ix1 _ _ w
          have HY := hide hy
          clear hy
          have XI : Hid (In x) := by
            have h4 := HI.out
            rw [unhide HX]; unfold Hid; split
            · exact h4.1
            · exact h4.2.1
          have YI : Hid (In y) := by
            have h4 := HI.out
            rw [unhide HY]; unfold Hid; split
            · exact h4.2.2.1
            · exact h4.2.2.2
          have hEl : 2 * k + q < E.length := by rw [unhide HE]; simp; omega
          have EK : Hid (E[2 * k + q] = x.tdiv y) := by
            unfold Hid
            simp only [unhide HE, unhide HX, unhide HY]
            rcases (show k = 0 ∨ k = 1 by omega) with rfl | rfl <;> rcases (show q = 0 ∨ q = 1 by omega) with rfl | rfl <;> rfl
          have HR := hide hrel
          clear hrel
          go_wp2_with fail
          refine (NumQuo_c _ _ XI.out YI.out _).mono ?_
          rintro e w2 ⟨rfl, m, rfl⟩
          have yne : y ≠ 0 := by rw [unhide HY]; split <;> assumption
          have hq1 : quN x y = clN (x.tdiv y) := by unfold quN; exact if_neg yne
          have hq2 : quO x y = clO (x.tdiv y) := by unfold quO; exact if_neg yne
          rw [hq1, hq2]
          clear hq1 hq2 yne
          have hr2 := (unhide HR).drewN m
          generalize wr.drewN m = wr at hr2 ⊢
          clear HR
          have hown2 := hr2.1
          have HR2 := hide hr2
          clear hr2
          go_wp2_with (at_builtin; refine wpList_append_own _ rfl _ _ 57 rfl base 77 inf (.agg #[.int .i64 0, .int .i64 0]) 2 16 Try.underlying57 hi hz0 hz1 hz2 rfl (by decide) _ _ _ rfl (hown2.alloc _) ⟨_, 0, none⟩ 1 1 [.int .i64 (clN (x.tdiv y)), .int .i64 (clO (x.tdiv y))] rfl rfl ?c1 ?c2 ?c3 ?c4 ?c5 ?_)
          case c1 =>
            intro j u hj
            rcases j with _ | _ | j
            · simp at hj; subst hj; simp [Addr.add]
            · simp at hj; subst hj; simp [Addr.add]
            · simp at hj
          case c2 =>
            intro u hu
            simp at hu
            rcases hu with rfl | rfl <;> rfl
          case c3 => unfold maxLen; omega
          case c4 => omega
          case c5 => have := (unhide HR2).2.2.2.2; simp; omega
          intro v' w3 hown3 hgrow _
          have R3 := hide ((unhide HR2).step hbase hEl EK.out hown3 hgrow)
          clear hown3 hgrow HR2 hown2
          go_wp2
          go_roundw
          case rel => exact ⟨q + 1, by omega, by go_num, unhide R3⟩
          case measure => simp [intOf]; omega
        · obtain rfl : q = 2 := by omega
          have HR := hide hrel
          clear hrel
          go_wp2
          go_roundw
          case rel => exact ⟨k + 1, by omega, by go_num, unhide HR⟩
          case measure => simp [intOf]; omega
    · obtain rfl : k = 2 := by omega
      have HR := hide hrel
      clear hrel
      go_wp2
      go_ret
      have h4 := unhide HR
      have e4 : E.take (2 * 2) = E := by rw [unhide HE]; rfl
      rw [Rel, e4] at h4
      exact ⟨_, rfl, h4.1, h4.2.2.2.1⟩

end Go.Proofs.Ytfnedaidljppnaa
