/- Rows of texts; the place of one. -/
import Derived.Test.YthldhjifnpfmiaaDoorNameD
namespace Go.Proofs.YthldhjifnpfmiaaDoor
open Go.RowKit
set_option linter.unusedSimpArgs false

/-- So many texts at an address. -/
def Strs (w : World) (a : Option Addr) (xs : List ByteArray) : Prop :=
  xs.length ≤ 1048576 ∧ (xs.length = 0 ∨ ∃ cb co, a = some ⟨cb, co, none⟩ ∧ ∀ i, (h : i < xs.length) → w.cell? ⟨cb, co + i, none⟩ = some (.string xs[i]))
theorem Strs.to {w w1 : World} {a : Option Addr} {xs : List ByteArray} {B : Nat} (h : Strs w a xs) (hb : Below B w w1) (ha : ∀ x, a = some x → 0 < xs.length → x.block < B) : Strs w1 a xs := by
  refine ⟨h.1, ?_⟩
  rcases h.2 with h0 | ⟨cb, co, rfl, hc⟩
  · exact .inl h0
  · exact .inr ⟨cb, co, rfl, fun i hi => (hb.cell (by exact ha ⟨cb, co, none⟩ rfl (by omega))).trans (hc i hi)⟩
theorem Strs.lt {w : World} {a : Option Addr} {xs : List ByteArray} (h : Strs w a xs) : ∀ x, a = some x → 0 < xs.length → x.block < w.heap.size := by
  intro x hx h0
  rcases h.2 with h1 | ⟨cb, co, rfl, hc⟩
  · omega
  · cases hx
    exact World.block_lt_of_cell? w _ (hc 0 h0)
theorem Strs.call {w w1 : World} {a : Option Addr} {xs : List ByteArray} (h : Strs w a xs) (hb : Below w.heap.size w w1) : Strs w1 a xs := h.to hb h.lt
/-- The place of a text, -1 where it is not there. -/
def plc (s : ByteArray) (xs : List ByteArray) : Int := if xs.findIdx (fun x => eqS x s) < xs.length then (xs.findIdx (fun x => eqS x s) : Int) else -1
theorem plc_at (s : ByteArray) (xs : List ByteArray) (k : Nat) (hk : k < xs.length) (h : eqS xs[k] s = true) (hn : ∀ i, (hi : i < xs.length) → i < k → eqS xs[i] s = false) : plc s xs = k := by
  have e : xs.findIdx (fun x => eqS x s) = k := (List.findIdx_eq hk).2 ⟨h, fun j hj => hn j (by omega) hj⟩
  unfold plc
  rw [e, if_pos hk]
theorem plc_none (s : ByteArray) (xs : List ByteArray) (hn : ∀ i, (hi : i < xs.length) → eqS xs[i] s = false) : plc s xs = -1 := by
  have e : xs.findIdx (fun x => eqS x s) = xs.length := List.findIdx_eq_length.2 (fun x hx => by obtain ⟨i, hi, rfl⟩ := List.getElem_of_mem hx; exact hn i hi)
  unfold plc
  rw [e, if_neg (by omega)]
set_option maxHeartbeats 400000 in
theorem l3Place_c (a : Option Addr) (cap : Nat) (xs : List ByteArray) (s : ByteArray) (w : World) (h : Strs w a xs) : Calls Tryd.prog 52 #[.slice a xs.length cap, .string s] w fun e w' => e = .returned (.int .i64 (plc s xs)) ∧ w' = w := by
  have hl := h.1
  obtain ⟨L, hL⟩ : ∃ L, L = xs.length := ⟨_, rfl⟩
  rw [← hL] at hl ⊢
  have HL := hide hL
  have HH := hide h
  have hl' : (L : Int) ≤ 1048576 := by omega
  clear h hL
  go_enter Tryd.func52, Tryd.ntmps52
  go_wp2
  go_loop [5] (fun i => ∃ k : Nat, k ≤ L ∧ i = .int .i64 k ∧ ∀ i, (hi : i < xs.length) → i < k → eqS xs[i] s = false) (fun i => L - (intOf i).toNat)
  case atStart => exact ⟨0, Nat.zero_le _, rfl, fun i _ h => by omega⟩
  case round =>
    obtain ⟨k, hk, rfl, hno⟩ := hrel
    have HN := hide hno
    clear hno
    by_cases hlt : k < L
    · have hk' : k < xs.length := by rw [← unhide HL]; exact hlt
      rcases (unhide HH).2 with h0 | ⟨cb, co, rfl, hc⟩
      · omega
      have c := hc k hk'
      have HP := hide (plc_at s xs k hk')
      have HQ := hide (show eqS xs[k] s = false → ∀ i, (hi : i < xs.length) → i < k + 1 → eqS xs[i] s = false from fun e i hi hik => by
        by_cases q : i = k
        · subst q; exact e
        · exact unhide HN i hi (by omega))
      clear hc
      generalize xs[k] = x at c HP HQ
      by_cases hx : x.toList = s.toList
      · have HX := hide (show plc s xs = k from unhide HP (decide_eq_true hx) (unhide HN))
        go_wp2
        go_ret
        exact ⟨by rw [unhide HX]; rfl, rfl⟩
      · have HX := hide (unhide HQ (decide_eq_false hx))
        have hx2 : (x.toList == s.toList) = false := by simpa using hx
        clear hx
        go_wp2
        go_round
        case rel => exact ⟨k + 1, by omega, by go_num, unhide HX⟩
        case measure => simp [intOf]; omega
    · have HX := hide (show plc s xs = -1 from plc_none s xs (fun i hi => unhide HN i hi (by have := unhide HL; omega)))
      go_wp2
      go_ret
      exact ⟨by rw [unhide HX]; rfl, rfl⟩
end Go.Proofs.YthldhjifnpfmiaaDoor
