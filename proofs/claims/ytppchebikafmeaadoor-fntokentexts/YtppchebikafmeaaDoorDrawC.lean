/- What is drawn: numbers that fit. -/
import Derived.Test.YtppchebikafmeaaDoorReadC
import Derived.OpenShut
namespace Go.Proofs.YtppchebikafmeaaDoor
open Go.RowKit Go.Iv

theorem div_pow_in (x : Int) (k : Nat) (h : In x) : In (x / 2 ^ k) := by
  have hp : (0 : Int) < 2 ^ k := Int.pow_pos (by decide)
  have hp1 : (1 : Int) ≤ 2 ^ k := hp
  unfold In at *
  by_cases h0 : 0 ≤ x
  · have h1 := Int.ediv_nonneg h0 (Int.le_of_lt hp)
    have h2 := Int.ediv_le_self ((2 : Int) ^ k) h0
    omega
  · have h1 : x ≤ x / 2 ^ k := (Int.le_ediv_iff_mul_le hp).2 (by
      have := Int.mul_le_mul_of_nonpos_left (a := x) (b := 2 ^ k) (c := 1) (by omega) hp1
      omega)
    have h2 : x / 2 ^ k < 0 := Int.ediv_neg_of_neg_of_pos (by omega) hp
    omega

/-- A number of a literal slice, read behind calls of the reader's methods. -/
theorem lit_cell {w2 W : World} {b : Nat} (l : List Int) (ty : TypeId) (k : Kp b (W.alloc (.cells (l.map (Value.int .i64)).toArray ty)) w2) (hb : b < W.heap.size) (i : Nat) (hi : i < l.length) (hin : ∀ n ∈ l, In n) :
    ∃ z, w2.cell? ⟨W.heap.size, i, none⟩ = some (.int .i64 z) ∧ In z := by
  refine ⟨l[i], ?_, hin _ (List.getElem_mem hi)⟩
  have h1 : (W.alloc (.cells (l.map (Value.int .i64)).toArray ty)).heap[W.heap.size]? = some (.cells (l.map (Value.int .i64)).toArray ty) := heap_alloc_new W _
  have h2 := k.block W.heap.size (by simp) (by omega)
  rw [h1] at h2
  simp [World.cell?, h2, hi]

/-- What the walk is told of a slice of bytes that is not too long is a code. -/
theorem code_of_row {w : World} {a : Option Addr} {len cap : Nat} {zs : List Int}
    (h : (a = none ∧ len = 0 ∧ cap = 0 ∧ zs = []) ∨ ∃ x, a = some x ∧ len ≤ cap ∧ cap ≤ maxLen ∧ zs.length = cap ∧ (∀ i, i < zs.length → w.cell? (x.add i) = some (.int .u8 (zs.getD i 0))) ∧ ∀ n ∈ zs, (Lit.int .u8 n).wf = true)
    (hb : len ≤ 1048576) : Code w a len := by
  refine ⟨hb, ?_⟩
  rcases h with ⟨_, h0, _⟩ | ⟨x, rfl, hl, hm, hz, hcell, hwz⟩
  · exact .inl h0
  · by_cases h0 : len = 0
    · exact .inl h0
    · obtain ⟨b, off, spot⟩ := x
      have hc := hcell 0 (by omega)
      have hspot : spot = none := by simpa [Addr.add] using World.cell?_spot hc
      subst hspot
      have hadd : ∀ i, (⟨b, off, none⟩ : Addr).add i = ⟨b, off + i, none⟩ := by intro i; unfold Addr.add; split <;> simp_all
      refine .inr ⟨b, off, rfl, fun i hi => ⟨zs.getD i 0, by rw [← hadd i]; exact hcell i (by omega), ?_⟩⟩
      have hw := hwz (zs.getD i 0) (by
        rw [List.getD_eq_getElem?_getD, List.getElem?_eq_getElem (by omega)]
        simp)
      exact bounds_u8 hw
theorem Code.below {w w' : World} {a : Option Addr} {len : Nat} (h : Code w a len) (k : Below w.heap.size w w') : Code w' a len := by
  refine ⟨h.1, ?_⟩
  rcases h.2 with h0 | ⟨cb, co, ha, hc⟩
  · exact .inl h0
  · refine .inr ⟨cb, co, ha, fun i hi => ?_⟩
    obtain ⟨z, hz, h1⟩ := hc i hi
    refine ⟨z, ?_, h1⟩
    rw [k.cell (p := ⟨cb, co + i, none⟩) (World.block_lt_of_cell? w _ hz)]
    exact hz

theorem open_c (a : Option Addr) (len cap : Nat) (w : World) : Calls Tryd.prog 24 #[.slice a len cap] w fun e w' => e = .returned (.pointer (some ⟨w.heap.size, 0, none⟩)) ∧ w' = w.alloc (.cells #[.slice a len cap, .int .i64 0] 70) := by
  go_enter Tryd.func24, Tryd.ntmps24
  go_wp2
  go_ret
  exact ⟨rfl, rfl⟩
theorem open_rdr (a : Option Addr) (len cap : Nat) (w : World) (h : Code w a len) : Left w.heap.size a len cap w (w.alloc (.cells #[.slice a len cap, .int .i64 0] 70)) := by
  refine ⟨⟨⟨0, Nat.zero_le _, heap_alloc_new w _⟩, h.alloc _, ?_⟩, (Kp.refl _ _).alloc _⟩
  intro x hx hl
  rcases h.2 with h0 | ⟨cb, co, ha, hc⟩
  · omega
  · obtain ⟨z, hz, _⟩ := hc 0 hl
    have hlt := World.block_lt_of_cell? w _ hz
    rw [ha] at hx
    simp at hx
    subst hx
    simp at hlt ⊢
    omega

def pick4 (c0 c1 c2 c3 y : Int) : Int := if y = 0 then c0 else if y = 1 then c1 else if y = 2 then c2 else c3
theorem pick4_in {c0 c1 c2 c3 : Int} (y : Int) (h0 : In c0) (h1 : In c1) (h2 : In c2) (h3 : In c3) : In (pick4 c0 c1 c2 c3 y) := by
  unfold pick4; split
  · exact h0
  · split
    · exact h1
    · split
      · exact h2
      · exact h3
theorem pick4_cell (W : World) (c0 c1 c2 c3 : Int) (ty : TypeId) (y : Int) (h0 : 0 ≤ y) (h1 : y < 4) : (W.alloc (.cells #[.int .i64 c0, .int .i64 c1, .int .i64 c2, .int .i64 c3] ty)).cell? ⟨W.heap.size, y.toNat, none⟩ = some (.int .i64 (pick4 c0 c1 c2 c3 y)) := by
  have h : (W.alloc (.cells #[.int .i64 c0, .int .i64 c1, .int .i64 c2, .int .i64 c3] ty)).heap[W.heap.size]? = some (.cells #[.int .i64 c0, .int .i64 c1, .int .i64 c2, .int .i64 c3] ty) := heap_alloc_new W _
  rcases (show y = 0 ∨ y = 1 ∨ y = 2 ∨ y = 3 by omega) with rfl | rfl | rfl | rfl <;> (unfold World.cell?; rw [h]; simp [pick4])
theorem pick4_kept {W w2 : World} {b : Nat} {c0 c1 c2 c3 : Int} {ty : TypeId} {y : Int} (k : Kp b (W.alloc (.cells #[.int .i64 c0, .int .i64 c1, .int .i64 c2, .int .i64 c3] ty)) w2) (hb : b < W.heap.size) (h0 : 0 ≤ y) (h1 : y < 4) :
    w2.cell? ⟨W.heap.size, y.toNat, none⟩ = some (.int .i64 (pick4 c0 c1 c2 c3 y)) := by
  rw [World.cell?_of_block (w := W.alloc (.cells #[.int .i64 c0, .int .i64 c1, .int .i64 c2, .int .i64 c3] ty)) (k.block W.heap.size (by simp) (by omega))]
  exact pick4_cell W c0 c1 c2 c3 ty y h0 h1
theorem iwrap_in (x : Int) : In (IntKind.i64.wrap x) := by rw [IntKind.wrap_i64]; unfold In; omega
theorem wrap_in (x : Int) : In (wrap64 x) := by unfold In wrap64; omega

theorem ret_bool {a b : Bool} (h : a = b) : Ending.returned (.bool a) = .returned (.bool b) := by rw [h]
theorem big_c (a : Option Addr) (len cap : Nat) (h : len ≤ 1048576) (w : World) : Calls Tryd.prog 6 #[.slice a len cap] w fun e w' => e = .returned (.bool false) ∧ w' = w := by
  go_enter Tryd.func6, Tryd.ntmps6
  go_wp2
  go_ret
  exact ⟨ret_bool (decide_eq_false (by omega)), rfl⟩
theorem big_yes (a : Option Addr) (len cap : Nat) (h : 1048576 < len) (hm : len ≤ maxLen) (w : World) : Calls Tryd.prog 6 #[.slice a len cap] w fun e w' => e = .returned (.bool true) ∧ w' = w := by
  unfold maxLen at hm
  go_enter Tryd.func6, Tryd.ntmps6
  go_wp2
  go_ret
  exact ⟨ret_bool (decide_eq_true (by omega)), rfl⟩
theorem row_len {w : World} {a : Option Addr} {len cap : Nat} {zs : List Int}
    (h : (a = none ∧ len = 0 ∧ cap = 0 ∧ zs = []) ∨ ∃ x, a = some x ∧ len ≤ cap ∧ cap ≤ maxLen ∧ zs.length = cap ∧ (∀ i, i < zs.length → w.cell? (x.add i) = some (.int .u8 (zs.getD i 0))) ∧ ∀ n ∈ zs, (Lit.int .u8 n).wf = true) : len ≤ maxLen := by
  rcases h with ⟨_, h0, _⟩ | ⟨x, rfl, hl, hm, _⟩
  · omega
  · omega
end Go.Proofs.YtppchebikafmeaaDoor
