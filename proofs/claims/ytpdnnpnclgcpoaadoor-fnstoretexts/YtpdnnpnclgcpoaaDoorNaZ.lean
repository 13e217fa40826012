/- Texts that go together: OrdT, OrdU, NameC, NameD, StrC, StrD, StrE, StrF. -/
import Derived.Test.YtpdnnpnclgcpoaaDoorRows
import Derived.WalkKit
import Derived.OrdersHeld
import Derived.Deep.QuietTactic
import Derived.Deep.LoopGhost
import Derived.WalkSpells
import Derived.Below
import Derived.Laws.OwnMore
import Derived.BigQuiet
/- An operation is taken first; the shorter form. -/
namespace Go.Proofs.YtpdnnpnclgcpoaaDoor
theorem tk {P : Program} {ops : Array Oper} {Q : Exit → Act → World → Prop} {md : Region.Mode} {S : World → Prop} (i : Nat) {oi : Oper} {v : Value} {fuel : Nat} {listed : Array Bool} {a : Act} {w : World} (hi : ops[i]? = some oi)
    (hy : ∀ w, S w → (execOp a.eval oi).run P w = .ok (.value v) w) (h : wpAnyH P md ops Q S fuel (listed.setIfInBounds i true) (a.put oi.dst v) w)
    (hs : Region.noSelect ops = true := by kernel_rfl) (hf : Region.free md ops listed i = true := by kernel_rfl) (hr : (Region.ready md ops listed).contains i = true := by kernel_rfl)
    (hQ : ∀ c a w, Q (.panic c) (a.put oi.dst v) w → Q (.panic c) a w := by exact fun _ _ _ h => h) (hd : Region.wanted oi (yielded ops a.tmps) = true := by rfl) (hS : S w := by assumption) : wpAnyH P md ops Q S (fuel + 1) listed a w :=
  wpAnyH_take hi hs hf hr hQ (Or.inl ⟨hd, hy⟩) hS h
end Go.Proofs.YtpdnnpnclgcpoaaDoor

/- What a drawn region's walk puts into its temporaries; short names. -/
namespace Go.Proofs.YtpdnnpnclgcpoaaDoor
theorem sa {α : Type} (l : List α) (i : Nat) (a : α) : l.toArray.setIfInBounds i a = (l.set i a).toArray := List.setIfInBounds_toArray ..
theorem sb {α : Type} (x : α) (l : List α) (a : α) : (x :: l).set 0 a = a :: l := List.set_cons_zero
theorem sc {α : Type} (x : α) (l : List α) (i : Nat) (a : α) : (x :: l).set (i + 1) a = x :: l.set i a := List.set_cons_succ
end Go.Proofs.YtpdnnpnclgcpoaaDoor

/- Names: letters, and how many there are at the start of a text. -/
namespace Go.Proofs.YtpdnnpnclgcpoaaDoor
open Go.RowKit
set_option linter.unusedSimpArgs false

theorem hide {p : Prop} (h : p) : Hid p := h
theorem unhide {p : Prop} (h : Hid p) : p := h
def letB (c : Int) : Bool := decide (97 ≤ c ∧ c ≤ 122)
theorem isLetter_c (c : Int) (w : World) : Calls Tryd.prog 118 #[.int .u8 c] w fun e w' => e = .returned (.bool (letB c)) ∧ w' = w := by
  by_cases h : 97 ≤ c
  · have H : Hid (letB c = decide (c ≤ 122)) := decide_eq_decide.2 ⟨fun k => k.2, fun k => ⟨h, k⟩⟩
    go_enter Tryd.func118, Tryd.ntmps118
    go_wp2
    go_ret
    exact ⟨by rw [H.out]; rfl, rfl⟩
  · have H : Hid (letB c = false) := decide_eq_false (fun k => h k.1)
    go_enter Tryd.func118, Tryd.ntmps118
    go_wp2
    go_ret
    exact ⟨by rw [H.out]; rfl, rfl⟩
def inB (n lo hi : Int) : Bool := decide (lo ≤ n ∧ n ≤ hi)
theorem l1In_c (n lo hi : Int) (w : World) : Calls Tryd.prog 85 #[.int .i64 n, .int .i64 lo, .int .i64 hi] w fun e w' => e = .returned (.bool (inB n lo hi)) ∧ w' = w := by
  by_cases h : lo ≤ n
  · have H : Hid (inB n lo hi = decide (n ≤ hi)) := decide_eq_decide.2 ⟨fun k => k.2, fun k => ⟨h, k⟩⟩
    go_enter Tryd.func85, Tryd.ntmps85
    go_wp2
    go_ret
    exact ⟨by rw [H.out]; rfl, rfl⟩
  · have H : Hid (inB n lo hi = false) := decide_eq_false (fun k => h k.1)
    go_enter Tryd.func85, Tryd.ntmps85
    go_wp2
    go_ret
    exact ⟨by rw [H.out]; rfl, rfl⟩
/-- n bytes at the start are letters, and no more. -/
def RunN (s : ByteArray) (n : Nat) : Prop := n ≤ s.size ∧ (∀ i, (h : i < s.size) → i < n → letB (s[i].toNat : Int) = true) ∧ (n = s.size ∨ ∃ h : n < s.size, letB (s[n].toNat : Int) = false)
set_option maxHeartbeats 400000 in
theorem runOf_c (s : ByteArray) (hs : s.size ≤ 1048576) (w : World) : Calls Tryd.prog 117 #[.string s, .func (.func 118) #[] #[]] w fun e w' => ∃ n : Nat, e = .returned (.int .i64 n) ∧ RunN s n ∧ w' = w := by
  have hs' : (s.size : Int) ≤ 1048576 := by omega
  go_enter Tryd.func117, Tryd.ntmps117
  go_wp2
  go_loop [5] (fun i => ∃ k : Nat, k ≤ s.size ∧ i = .int .i64 k ∧ ∀ i, (h : i < s.size) → i < k → letB (s[i].toNat : Int) = true) (fun i => s.size - (intOf i).toNat)
  case atStart => exact ⟨0, Nat.zero_le _, rfl, fun i _ h => by omega⟩
  case round =>
    obtain ⟨k, hk, rfl, hall⟩ := hrel
    have HA := hide hall
    clear hall
    by_cases hlt : k < s.size
    · cases hb : letB (s[k].toNat : Int)
      · go_wp2_with (go_at_call 118; refine (isLetter_c _ _).mono ?_; rintro e w' ⟨rfl, rfl⟩)
        go_ret
        exact ⟨k, rfl, ⟨hk, unhide HA, .inr ⟨hlt, hb⟩⟩, rfl⟩
      · go_wp2_with (go_at_call 118; refine (isLetter_c _ _).mono ?_; rintro e w' ⟨rfl, rfl⟩)
        go_round
        case rel =>
          refine ⟨k + 1, by omega, by go_num, fun i h hi => ?_⟩
          by_cases e : i = k
          · subst e; exact hb
          · exact unhide HA i h (by omega)
        case measure => simp [intOf]; omega
    · go_wp2
      go_ret
      exact ⟨k, rfl, ⟨hk, unhide HA, .inl (by omega)⟩, rfl⟩
end Go.Proofs.YtpdnnpnclgcpoaaDoor

/- Names: the words that are none. -/
namespace Go.Proofs.YtpdnnpnclgcpoaaDoor
open Go.RowKit
set_option linter.unusedSimpArgs false

/-- The words that are no names. -/
def keysL : List ByteArray := [⟨#[118, 97, 114]⟩, ⟨#[102, 108, 97, 103]⟩, ⟨#[97, 114, 114, 97, 121]⟩, ⟨#[105, 102]⟩, ⟨#[102, 111, 114, 107]⟩, ⟨#[101, 108, 115, 101]⟩, ⟨#[101, 110, 100]⟩, ⟨#[119, 104, 105, 108, 101]⟩, ⟨#[117, 110, 114, 111, 108, 108]⟩, ⟨#[97, 115, 115, 101, 114, 116]⟩, ⟨#[97, 115, 115, 117, 109, 101]⟩, ⟨#[105, 110, 112, 117, 116]⟩, ⟨#[115, 112, 108, 105, 116]⟩, ⟨#[109, 101, 114, 103, 101]⟩, ⟨#[116, 114, 117, 101]⟩, ⟨#[102, 97, 108, 115, 101]⟩]
def eqS (x s : ByteArray) : Bool := decide (x.toList = s.toList)
def keyB (s : ByteArray) : Bool := keysL.any fun k => eqS k s
theorem keysL_len : keysL.length = 16 := rfl
theorem key_snoc (s : ByteArray) (k : Nat) (h : k < keysL.length) : (keysL.take (k + 1)).any (fun x => eqS x s) = ((keysL.take k).any (fun x => eqS x s) || eqS keysL[k] s) := by
  rw [List.take_succ_eq_append_getElem h, List.any_append]; simp only [List.any_cons, List.any_nil, Bool.or_false]
set_option maxHeartbeats 1000000 in
theorem l3Key_c (s : ByteArray) (w : World) : Calls Tryd.prog 115 #[.string s] w fun e w' => e = .returned (.bool (keyB s)) ∧ Below w.heap.size w w' := by
  have hc : ∀ k, (h : k < keysL.length) → (w.alloc (Obj.cells #[.string ⟨#[118, 97, 114]⟩, .string ⟨#[102, 108, 97, 103]⟩, .string ⟨#[97, 114, 114, 97, 121]⟩, .string ⟨#[105, 102]⟩, .string ⟨#[102, 111, 114, 107]⟩, .string ⟨#[101, 108, 115, 101]⟩, .string ⟨#[101, 110, 100]⟩, .string ⟨#[119, 104, 105, 108, 101]⟩, .string ⟨#[117, 110, 114, 111, 108, 108]⟩, .string ⟨#[97, 115, 115, 101, 114, 116]⟩, .string ⟨#[97, 115, 115, 117, 109, 101]⟩, .string ⟨#[105, 110, 112, 117, 116]⟩, .string ⟨#[115, 112, 108, 105, 116]⟩, .string ⟨#[109, 101, 114, 103, 101]⟩, .string ⟨#[116, 114, 117, 101]⟩, .string ⟨#[102, 97, 108, 115, 101]⟩] 9)).cell? ⟨w.heap.size, k, none⟩ = some (.string keysL[k]) := by
    intro k h
    have e : (w.alloc (Obj.cells #[.string ⟨#[118, 97, 114]⟩, .string ⟨#[102, 108, 97, 103]⟩, .string ⟨#[97, 114, 114, 97, 121]⟩, .string ⟨#[105, 102]⟩, .string ⟨#[102, 111, 114, 107]⟩, .string ⟨#[101, 108, 115, 101]⟩, .string ⟨#[101, 110, 100]⟩, .string ⟨#[119, 104, 105, 108, 101]⟩, .string ⟨#[117, 110, 114, 111, 108, 108]⟩, .string ⟨#[97, 115, 115, 101, 114, 116]⟩, .string ⟨#[97, 115, 115, 117, 109, 101]⟩, .string ⟨#[105, 110, 112, 117, 116]⟩, .string ⟨#[115, 112, 108, 105, 116]⟩, .string ⟨#[109, 101, 114, 103, 101]⟩, .string ⟨#[116, 114, 117, 101]⟩, .string ⟨#[102, 97, 108, 115, 101]⟩] 9)).cell? ⟨w.heap.size, k, none⟩ = ((keysL.map Value.string).toArray)[k]? := by
      unfold World.cell?
      rw [heap_alloc_new]
      rfl
    rw [e]
    simp [h]
  have HC := hide hc
  have K := hide ((Below.refl _ w).alloc (Nat.le_refl _) (Obj.cells #[.string ⟨#[118, 97, 114]⟩, .string ⟨#[102, 108, 97, 103]⟩, .string ⟨#[97, 114, 114, 97, 121]⟩, .string ⟨#[105, 102]⟩, .string ⟨#[102, 111, 114, 107]⟩, .string ⟨#[101, 108, 115, 101]⟩, .string ⟨#[101, 110, 100]⟩, .string ⟨#[119, 104, 105, 108, 101]⟩, .string ⟨#[117, 110, 114, 111, 108, 108]⟩, .string ⟨#[97, 115, 115, 101, 114, 116]⟩, .string ⟨#[97, 115, 115, 117, 109, 101]⟩, .string ⟨#[105, 110, 112, 117, 116]⟩, .string ⟨#[115, 112, 108, 105, 116]⟩, .string ⟨#[109, 101, 114, 103, 101]⟩, .string ⟨#[116, 114, 117, 101]⟩, .string ⟨#[102, 97, 108, 115, 101]⟩] 9))
  clear hc
  go_enter Tryd.func115, Tryd.ntmps115
  go_wp2
  generalize w.alloc (Obj.cells #[.string ⟨#[118, 97, 114]⟩, .string ⟨#[102, 108, 97, 103]⟩, .string ⟨#[97, 114, 114, 97, 121]⟩, .string ⟨#[105, 102]⟩, .string ⟨#[102, 111, 114, 107]⟩, .string ⟨#[101, 108, 115, 101]⟩, .string ⟨#[101, 110, 100]⟩, .string ⟨#[119, 104, 105, 108, 101]⟩, .string ⟨#[117, 110, 114, 111, 108, 108]⟩, .string ⟨#[97, 115, 115, 101, 114, 116]⟩, .string ⟨#[97, 115, 115, 117, 109, 101]⟩, .string ⟨#[105, 110, 112, 117, 116]⟩, .string ⟨#[115, 112, 108, 105, 116]⟩, .string ⟨#[109, 101, 114, 103, 101]⟩, .string ⟨#[116, 114, 117, 101]⟩, .string ⟨#[102, 97, 108, 115, 101]⟩] 9) = W at HC K ⊢
  go_loop [4] (fun i => ∃ k : Nat, k ≤ 16 ∧ i = .int .i64 k ∧ (keysL.take k).any (fun x => eqS x s) = false) (fun i => 16 - (intOf i).toNat)
  case atStart => exact ⟨0, by decide, rfl, rfl⟩
  case round =>
    obtain ⟨k, hk, rfl, hno⟩ := hrel
    have HN := hide hno
    clear hno
    by_cases hlt : k < 16
    · have hk' : k < keysL.length := by rw [keysL_len]; exact hlt
      have c := (unhide HC) k hk'
      have HS := hide (key_snoc s k hk')
      have HT := hide (show eqS keysL[k] s = true → keyB s = true from fun e => by unfold keyB; rw [List.any_eq_true]; exact ⟨_, List.getElem_mem hk', e⟩)
      generalize keysL[k] = x at c HS HT
      have hlt' : (k : Int) < 16 := by omega
      by_cases hx : x.toList = s.toList
      · have HX := hide (show keyB s = true from unhide HT (decide_eq_true hx))
        go_wp2
        go_ret
        exact ⟨by rw [unhide HX]; rfl, unhide K⟩
      · have HX := hide (show eqS x s = false from decide_eq_false hx)
        have hx2 : (x.toList == s.toList) = false := by simpa using hx
        clear hx
        go_wp2
        go_round
        case rel => exact ⟨k + 1, by omega, by go_num, by rw [unhide HS, unhide HN, unhide HX]; rfl⟩
        case measure => simp [intOf]; omega
    · obtain rfl : k = 16 := by omega
      have HF := hide (show keyB s = false from unhide HN)
      go_wp2
      go_ret
      exact ⟨by rw [unhide HF]; rfl, unhide K⟩
end Go.Proofs.YtpdnnpnclgcpoaaDoor

/- Rows of texts; the place of one. -/
namespace Go.Proofs.YtpdnnpnclgcpoaaDoor
open Go.RowKit
set_option linter.unusedSimpArgs false

/-- So many texts at an address. -/
def Strs (w : World) (a : Option Addr) (xs : List ByteArray) : Prop :=
  xs.length ≤ 1048576 ∧ (xs.length = 0 ∨ ∃ cb co, a = some ⟨cb, co, none⟩ ∧ ∀ i, (h : i < xs.length) → w.cell? ⟨cb, co + i, none⟩ = some (.string xs[i]))
theorem Strs.to {w w1 : World} {a : Option Addr} {xs : List ByteArray} {B : Nat} (h : Strs w a xs) (hb : Below B w w1) (ha : ∀ x, a = some x → 0 < xs.length → x.block < B) : Strs w1 a xs := by
  refine ⟨h.1, ?_⟩
  rcases h.2 with h0 | ⟨cb, co, rfl, hc⟩
  · exact .inl h0
  · exact .inr ⟨cb, co, rfl, fun i hi => (hb.cell (by exact ha ⟨cb, co, none⟩ rfl (by omega))).trans (hc i hi)⟩
theorem Strs.lt {w : World} {a : Option Addr} {xs : List ByteArray} (h : Strs w a xs) : ∀ x, a = some x → 0 < xs.length → x.block < w.heap.size := by
  intro x hx h0
  rcases h.2 with h1 | ⟨cb, co, rfl, hc⟩
  · omega
  · cases hx
    exact World.block_lt_of_cell? w _ (hc 0 h0)
theorem Strs.call {w w1 : World} {a : Option Addr} {xs : List ByteArray} (h : Strs w a xs) (hb : Below w.heap.size w w1) : Strs w1 a xs := h.to hb h.lt
/-- The place of a text, -1 where it is not there. -/
def plc (s : ByteArray) (xs : List ByteArray) : Int := if xs.findIdx (fun x => eqS x s) < xs.length then (xs.findIdx (fun x => eqS x s) : Int) else -1
theorem plc_at (s : ByteArray) (xs : List ByteArray) (k : Nat) (hk : k < xs.length) (h : eqS xs[k] s = true) (hn : ∀ i, (hi : i < xs.length) → i < k → eqS xs[i] s = false) : plc s xs = k := by
  have e : xs.findIdx (fun x => eqS x s) = k := (List.findIdx_eq hk).2 ⟨h, fun j hj => hn j (by omega) hj⟩
  unfold plc
  rw [e, if_pos hk]
theorem plc_none (s : ByteArray) (xs : List ByteArray) (hn : ∀ i, (hi : i < xs.length) → eqS xs[i] s = false) : plc s xs = -1 := by
  have e : xs.findIdx (fun x => eqS x s) = xs.length := List.findIdx_eq_length.2 (fun x hx => by obtain ⟨i, hi, rfl⟩ := List.getElem_of_mem hx; exact hn i hi)
  unfold plc
  rw [e, if_neg (by omega)]
set_option maxHeartbeats 400000 in
theorem l3Place_c (a : Option Addr) (cap : Nat) (xs : List ByteArray) (s : ByteArray) (w : World) (h : Strs w a xs) : Calls Tryd.prog 87 #[.slice a xs.length cap, .string s] w fun e w' => e = .returned (.int .i64 (plc s xs)) ∧ w' = w := by
  have hl := h.1
  obtain ⟨L, hL⟩ : ∃ L, L = xs.length := ⟨_, rfl⟩
  rw [← hL] at hl ⊢
  have HL := hide hL
  have HH := hide h
  have hl' : (L : Int) ≤ 1048576 := by omega
  clear h hL
  go_enter Tryd.func87, Tryd.ntmps87
  go_wp2
  go_loop [5] (fun i => ∃ k : Nat, k ≤ L ∧ i = .int .i64 k ∧ ∀ i, (hi : i < xs.length) → i < k → eqS xs[i] s = false) (fun i => L - (intOf i).toNat)
  case atStart => exact ⟨0, Nat.zero_le _, rfl, fun i _ h => by omega⟩
  case round =>
    obtain ⟨k, hk, rfl, hno⟩ := hrel
    have HN := hide hno
    clear hno
    by_cases hlt : k < L
    · have hk' : k < xs.length := by rw [← unhide HL]; exact hlt
      rcases (unhide HH).2 with h0 | ⟨cb, co, rfl, hc⟩
      · omega
      have c := hc k hk'
      have HP := hide (plc_at s xs k hk')
      have HQ := hide (show eqS xs[k] s = false → ∀ i, (hi : i < xs.length) → i < k + 1 → eqS xs[i] s = false from fun e i hi hik => by
        by_cases q : i = k
        · subst q; exact e
        · exact unhide HN i hi (by omega))
      clear hc
      generalize xs[k] = x at c HP HQ
      by_cases hx : x.toList = s.toList
      · have HX := hide (show plc s xs = k from unhide HP (decide_eq_true hx) (unhide HN))
        go_wp2
        go_ret
        exact ⟨by rw [unhide HX]; rfl, rfl⟩
      · have HX := hide (unhide HQ (decide_eq_false hx))
        have hx2 : (x.toList == s.toList) = false := by simpa using hx
        clear hx
        go_wp2
        go_round
        case rel => exact ⟨k + 1, by omega, by go_num, unhide HX⟩
        case measure => simp [intOf]; omega
    · have HX := hide (show plc s xs = -1 from plc_none s xs (fun i hi => unhide HN i hi (by have := unhide HL; omega)))
      go_wp2
      go_ret
      exact ⟨by rw [unhide HX]; rfl, rfl⟩
end Go.Proofs.YtpdnnpnclgcpoaaDoor

/- The library's Index and Contains over texts. -/
namespace Go.Proofs.YtpdnnpnclgcpoaaDoor
open Go.RowKit
set_option linter.unusedSimpArgs false

set_option maxHeartbeats 400000 in
theorem Index_c (a : Option Addr) (cap : Nat) (xs : List ByteArray) (s : ByteArray) (w : World) (h : Strs w a xs) : Calls Tryd.prog 119 #[.slice a xs.length cap, .string s] w fun e w' => e = .returned (.int .i64 (plc s xs)) ∧ w' = w := by
  have hl := h.1
  obtain ⟨L, hL⟩ : ∃ L, L = xs.length := ⟨_, rfl⟩
  rw [← hL] at hl ⊢
  have HL := hide hL
  have HH := hide h
  have hl' : (L : Int) ≤ 1048576 := by omega
  clear h hL
  go_enter Tryd.func119, Tryd.ntmps119
  go_wp2
  go_loop [8] (fun i => ∃ k : Nat, k ≤ L ∧ i = .int .i64 k ∧ ∀ i, (hi : i < xs.length) → i < k → eqS xs[i] s = false) (fun i => L - (intOf i).toNat)
  case atStart => exact ⟨0, Nat.zero_le _, rfl, fun i _ h => by omega⟩
  case round =>
    obtain ⟨k, hk, rfl, hno⟩ := hrel
    have HN := hide hno
    clear hno
    by_cases hlt : k < L
    · have hk' : k < xs.length := by rw [← unhide HL]; exact hlt
      rcases (unhide HH).2 with h0 | ⟨cb, co, rfl, hc⟩
      · omega
      have c := hc k hk'
      have HP := hide (plc_at s xs k hk')
      have HQ := hide (show eqS xs[k] s = false → ∀ i, (hi : i < xs.length) → i < k + 1 → eqS xs[i] s = false from fun e i hi hik => by
        by_cases q : i = k
        · subst q; exact e
        · exact unhide HN i hi (by omega))
      clear hc
      generalize xs[k] = x at c HP HQ
      by_cases hx : s.toList = x.toList
      · have HX := hide (show plc s xs = k from unhide HP (decide_eq_true hx.symm) (unhide HN))
        go_wp2
        go_ret
        exact ⟨by rw [unhide HX]; rfl, rfl⟩
      · have HX := hide (unhide HQ (decide_eq_false (fun e => hx e.symm)))
        have hx2 : (s.toList == x.toList) = false := by simpa using hx
        clear hx
        go_wp2
        go_round
        case rel => exact ⟨k + 1, by omega, by go_num, unhide HX⟩
        case measure => simp [intOf]; omega
    · have HX := hide (show plc s xs = -1 from plc_none s xs (fun i hi => unhide HN i hi (by have := unhide HL; omega)))
      go_wp2
      go_ret
      exact ⟨by rw [unhide HX]; rfl, rfl⟩
theorem plc_ge (s : ByteArray) (xs : List ByteArray) : (decide (0 ≤ plc s xs)) = xs.any (fun x => eqS x s) := by
  unfold plc
  by_cases h : xs.findIdx (fun x => eqS x s) < xs.length
  · rw [if_pos h]
    rw [show decide ((0 : Int) ≤ (xs.findIdx (fun x => eqS x s) : Int)) = true from decide_eq_true (by omega)]
    symm
    rw [List.any_eq_true]
    exact ⟨_, List.getElem_mem h, List.findIdx_getElem (w := h)⟩
  · rw [if_neg h]
    have e : xs.findIdx (fun x => eqS x s) = xs.length := by have := List.findIdx_le_length (p := fun x => eqS x s) (xs := xs); omega
    have a := List.findIdx_eq_length.1 e
    symm
    rw [show decide ((0 : Int) ≤ -1) = false from rfl, List.any_eq_false]
    intro x hx
    rw [a x hx]; simp
theorem Contains_c (a : Option Addr) (cap : Nat) (xs : List ByteArray) (s : ByteArray) (w : World) (h : Strs w a xs) : Calls Tryd.prog 90 #[.slice a xs.length cap, .string s] w fun e w' => e = .returned (.bool (xs.any fun x => eqS x s)) ∧ w' = w := by
  have HH := hide h
  have HG := hide (plc_ge s xs)
  clear h
  go_enter Tryd.func90, Tryd.ntmps90
  go_wp2_with fail
  refine (Index_c _ _ xs _ _ (unhide HH)).mono ?_
  rintro e w1 ⟨rfl, rfl⟩
  go_wp2
  go_ret
  exact ⟨by rw [← unhide HG]; rfl, rfl⟩
end Go.Proofs.YtpdnnpnclgcpoaaDoor

/- The laws' copies of rows of texts. -/
namespace Go.Proofs.YtpdnnpnclgcpoaaDoor
open Go.RowKit
set_option linter.unusedSimpArgs false

/-- A row of texts that fills a block of the call's own from its start. -/
def OwnS (w : World) (b : Nat) (xs : List ByteArray) : Prop := Strs w (some ⟨b, 0, none⟩) xs ∧ (∀ o, w.frozen? ⟨b, o, none⟩ = false) ∧ b < w.heap.size
theorem OwnS.call {w w1 : World} {b : Nat} {xs : List ByteArray} (h : OwnS w b xs) (hb : Below w.heap.size w w1) : OwnS w1 b xs :=
  ⟨h.1.call hb, fun o => (hb.frozen (by exact h.2.2)).trans (h.2.1 o), Nat.lt_of_lt_of_le h.2.2 hb.size⟩
theorem OwnS.set {w : World} {b c p : Nat} {v : Value} {xs : List ByteArray} (h : OwnS w b xs) (hne : c ≠ b) : OwnS (w.setCell ⟨c, p, none⟩ v) b xs := by
  refine ⟨⟨h.1.1, ?_⟩, fun o => (World.frozen?_setCell _ _ _ _).trans (h.2.1 o), by simpa [World.setCell] using h.2.2⟩
  rcases h.1.2 with h0 | ⟨cb, co, e, hc⟩
  · exact .inl h0
  · cases e
    exact .inr ⟨b, 0, rfl, fun i hi => (World.cell?_setCell_other _ _ _ _ (fun e => hne (congrArg Addr.block e))).trans (hc i hi)⟩
/-- A row of the call's own that is filled up to k. -/
def FillS (w : World) (g : Nat) (zs : List ByteArray) (k : Nat) (wr : World) : Prop :=
  (∀ i, (h : i < zs.length) → i < k → wr.cell? ⟨g, i, none⟩ = some (.string zs[i])) ∧ (∀ i, i < zs.length → k ≤ i → wr.cell? ⟨g, i, none⟩ = some (.string ⟨#[]⟩)) ∧ (∀ o, wr.frozen? ⟨g, o, none⟩ = false) ∧ g < wr.heap.size ∧ w.heap.size ≤ g ∧ Below w.heap.size w wr
theorem FillS.step {w wr : World} {g k : Nat} {zs : List ByteArray} (h : FillS w g zs k wr) (hk : k < zs.length) : FillS w g zs (k + 1) (wr.setCell ⟨g, k, none⟩ (.string zs[k])) := by
  obtain ⟨h1, h2, h3, h4, h5, h6⟩ := h
  have c := h2 k hk (Nat.le_refl _)
  refine ⟨fun i hi hik => ?_, fun i hi hik => ?_, fun o => (World.frozen?_setCell _ _ _ _).trans (h3 o), by simpa [World.setCell] using h4, h5, h6.setCell (by exact h5) _⟩
  · by_cases e : i = k
    · subst e
      exact World.cell?_setCell_same _ _ _ c
    · rw [World.cell?_setCell_other _ _ _ _ (fun hh => by have hh' : k = i := congrArg Addr.off hh; omega)]
      exact h1 i hi (by omega)
  · rw [World.cell?_setCell_other _ _ _ _ (fun hh => by have hh' : k = i := congrArg Addr.off hh; omega)]
    exact h2 i hi (by omega)
theorem strInfo : (Tryd.prog.info? 9).map (fun i => (i.zero, i.size, i.bytes)) = some (some (.string ⟨#[]⟩), 1, 16) := by kernel_rfl
theorem makeS_c (n : Nat) (hn : n ≤ 1048576) (zs : List ByteArray) (hz : zs.length = n) (w : World) : ∃ w1, (Instr.makeSlice 24 (.int .i64 (n : Int)) (.int .i64 (n : Int))).run Tryd.prog w = .ok (.slice (some ⟨w.heap.size, 0, none⟩) n n) w1 ∧ FillS w w.heap.size zs 0 w1 := by
  obtain ⟨inf, hi, hz0, hz1, hz2⟩ := info_parts strInfo
  obtain ⟨w1, hr, ho, hg⟩ := run_make_full (P := Tryd.prog) w w.heap.size 24 9 inf (.string ⟨#[]⟩) 1 Tryd.underlying24 hi hz0 hz1 .i64 .i64 n (by rw [hz2]; omega) (by unfold maxLen; omega) (Nat.le_refl _)
  refine ⟨w1, hr, fun i hi h0 => by omega, fun i hi _ => ?_, fun o => ho.frozenAt o, (ho.lt w.heap.size rfl).2, Nat.le_refl _, (Below.refl _ _).grown hg (Nat.le_refl _) (fun j hj => by simp at hj)⟩
  rw [ho.cellAt i (by omega)]
  rw [show (Value.string ⟨#[]⟩).cells = #[.string ⟨#[]⟩] from rfl, toList_madeCells_one, List.getElem?_replicate, if_pos (by omega)]

end Go.Proofs.YtpdnnpnclgcpoaaDoor

/- How much of a size is left behind a row of texts. -/
namespace Go.Proofs.YtpdnnpnclgcpoaaDoor
open Go.RowKit
set_option linter.unusedSimpArgs false

def szL : List ByteArray → Int → Int
  | [], l => l
  | x :: xs, l => if l - x.size < 0 then -1 else szL xs (l - x.size)
def szS (xs : List ByteArray) (l : Int) : Int := if l - xs.length < 0 then -1 else szL xs (l - xs.length)
/-- A row of texts of any length that a machine has. -/
def StrsA (w : World) (a : Option Addr) (xs : List ByteArray) : Prop :=
  xs.length ≤ 9223372036854775807 ∧ (∀ i, (h : i < xs.length) → xs[i].size ≤ 9223372036854775807) ∧ (xs.length = 0 ∨ ∃ cb co, a = some ⟨cb, co, none⟩ ∧ ∀ i, (h : i < xs.length) → w.cell? ⟨cb, co + i, none⟩ = some (.string xs[i]))
theorem szL_le (xs : List ByteArray) : ∀ l, 0 ≤ l → szL xs l ≤ l ∧ -1 ≤ szL xs l := by
  induction xs with
  | nil => intro l h; exact ⟨Int.le_refl _, by show -1 ≤ l; omega⟩
  | cons x xs ih =>
    intro l h
    unfold szL
    split
    · omega
    · have := ih (l - x.size) (by omega)
      omega
theorem szL_drop (xs : List ByteArray) (k : Nat) (h : k < xs.length) (l : Int) : szL (xs.drop k) l = if l - xs[k].size < 0 then -1 else szL (xs.drop (k + 1)) (l - xs[k].size) := by
  rw [List.drop_eq_getElem_cons h]; rfl
end Go.Proofs.YtpdnnpnclgcpoaaDoor

