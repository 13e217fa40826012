/- The reader of a code: what each of its methods answers is bounded; it turns no block but its own. -/
import Derived.Test.YtppchebikafmeaaDoorNumC
import Derived.Carry
import Derived.OneCell
import Derived.WalkSmall
namespace Go.Proofs.YtppchebikafmeaaDoor
open Go.RowKit Go.Iv

theorem or_u64_nonneg (x y : Int) : 0 ≤ bits .or .u64 x y := by show 0 ≤ IntKind.u64.wrap _; rw [IntKind.wrap_u64]; omega
theorem or_u64_le (x y : Int) : bits .or .u64 x y ≤ 18446744073709551615 := by show IntKind.u64.wrap _ ≤ _; rw [IntKind.wrap_u64]; omega

/-- The code: so many bytes at its address. -/
def Code (w : World) (a : Option Addr) (len : Nat) : Prop :=
  len ≤ 1048576 ∧ (len = 0 ∨ ∃ cb co, a = some ⟨cb, co, none⟩ ∧ ∀ i, i < len → ∃ z : Int, w.cell? ⟨cb, co + i, none⟩ = some (.int .u8 z) ∧ 0 ≤ z ∧ z ≤ 255)

/-- The reader lies in block b, over the code at a. -/
def Rdr (w : World) (b : Nat) (a : Option Addr) (len cap : Nat) : Prop :=
  (∃ p : Nat, p ≤ len ∧ w.heap[b]? = some (.cells #[.slice a len cap, .int .i64 p] 70 (0, 0))) ∧ Code w a len ∧ ∀ x, a = some x → 0 < len → x.block ≠ b

/-- All blocks that were there but b are as they were. -/
structure Kp (b : Nat) (w w' : World) : Prop where
  os : w'.os = w.os
  tape : w'.tape = w.tape
  output : w'.output = w.output
  size : w.heap.size ≤ w'.heap.size
  block : ∀ k, k < w.heap.size → k ≠ b → w'.heap[k]? = w.heap[k]?

theorem Kp.refl (b : Nat) (w : World) : Kp b w w := ⟨rfl, rfl, rfl, Nat.le_refl _, fun _ _ _ => rfl⟩
theorem Kp.trans {b : Nat} {u v w : World} (h : Kp b u v) (k : Kp b v w) : Kp b u w :=
  ⟨k.os.trans h.os, k.tape.trans h.tape, k.output.trans h.output, Nat.le_trans h.size k.size, fun i hi hb => (k.block i (Nat.lt_of_lt_of_le hi h.size) hb).trans (h.block i hi hb)⟩
theorem Kp.drewN {b : Nat} {u v : World} (h : Kp b u v) (n : Nat) : Kp b u (v.drewN n) := ⟨h.os, h.tape, h.output, h.size, h.block⟩
theorem Kp.undrew {b : Nat} {u v : World} (h : Kp b u.drew v) : Kp b u v := ⟨h.os, h.tape, h.output, h.size, h.block⟩
theorem Kp.undrewN {b n : Nat} {u v : World} (h : Kp b (u.drewN n) v) : Kp b u v := ⟨h.os, h.tape, h.output, h.size, h.block⟩
theorem Kp.drew {b : Nat} {u v : World} (h : Kp b u v) : Kp b u v.drew := ⟨h.os, h.tape, h.output, h.size, h.block⟩
theorem Kp.setCell {b o : Nat} {u v : World} (h : Kp b u v) (x : Value) : Kp b u (v.setCell ⟨b, o, none⟩ x) :=
  h.trans ⟨rfl, rfl, rfl, by simp [World.setCell], fun k _ hb => Below.heap_setCell _ _ _ _ (by exact hb)⟩
theorem Kp.alloc {b : Nat} {u v : World} (h : Kp b u v) (o : Obj) : Kp b u (v.alloc o) :=
  h.trans ⟨rfl, rfl, rfl, by simp, fun k hk _ => Below.heap_alloc _ _ _ hk⟩
theorem Kp.below {b B : Nat} {u v : World} (h : Kp b u v) (hB : B ≤ b) (hs : B ≤ u.heap.size) : Below B u v :=
  ⟨h.os, h.tape, h.output, h.size, fun k hk => h.block k (by omega) (by omega)⟩

theorem Code.kept {b : Nat} {w w' : World} {a : Option Addr} {len : Nat} (h : Code w a len) (hb : ∀ x, a = some x → 0 < len → x.block ≠ b) (k : Kp b w w') : Code w' a len := by
  refine ⟨h.1, ?_⟩
  rcases h.2 with h0 | ⟨cb, co, ha, hc⟩
  · exact .inl h0
  · refine .inr ⟨cb, co, ha, fun i hi => ?_⟩
    obtain ⟨z, hz, h1⟩ := hc i hi
    refine ⟨z, ?_, h1⟩
    have hlt := World.block_lt_of_cell? w _ hz
    rw [World.cell?_of_block (w := w) (k.block cb hlt (hb _ ha (by omega)))]
    exact hz
theorem Rdr.kept {b b' : Nat} {w w' : World} {a : Option Addr} {len cap : Nat} (h : Rdr w b a len cap) (k : Kp b' w w') (hne : b' ≠ b) (hb : ∀ x, a = some x → 0 < len → x.block ≠ b') : Rdr w' b a len cap := by
  obtain ⟨⟨p, hp, hh⟩, hc, hn⟩ := h
  refine ⟨⟨p, hp, ?_⟩, hc.kept hb k, hn⟩
  rw [k.block b (Array.getElem?_eq_some_iff.1 hh).1 (by omega)]
  exact hh
theorem Rdr.lt {b : Nat} {w : World} {a : Option Addr} {len cap : Nat} (h : Rdr w b a len cap) : b < w.heap.size := by
  obtain ⟨⟨p, hp, hh⟩, _⟩ := h
  exact (Array.getElem?_eq_some_iff.1 hh).1

theorem rdr_moved {b : Nat} {a : Option Addr} {len cap p : Nat} {w : World} (m n : Nat) (hp : p < len) (hh : w.heap[b]? = some (.cells #[.slice a len cap, .int .i64 p] 70 (0, 0))) (hc : Code w a len)
    (hn : ∀ x, a = some x → 0 < len → x.block ≠ b) : Rdr (((w.drewN m).setCell ⟨b, 1, none⟩ (.int .i64 ((p : Int) + 1))).drewN n) b a len cap ∧ Kp b w (((w.drewN m).setCell ⟨b, 1, none⟩ (.int .i64 ((p : Int) + 1))).drewN n) := by
  have k : Kp b w (((w.drewN m).setCell ⟨b, 1, none⟩ (.int .i64 ((p : Int) + 1))).drewN n) := (((Kp.refl b w).drewN m).setCell _).drewN n
  refine ⟨⟨⟨p + 1, by omega, ?_⟩, hc.kept hn k, hn⟩, k⟩
  show ((w.drewN m).setCell ⟨b, 1, none⟩ (.int .i64 ((p : Int) + 1))).heap[b]? = _
  simp only [World.setCell, Array.getElem?_modify]
  show Option.map _ (w.heap[b]?) = _
  rw [hh]
  simp

/-- What the methods of the reader leave. -/
def Left (b : Nat) (a : Option Addr) (len cap : Nat) (w w' : World) : Prop := Rdr w' b a len cap ∧ Kp b w w'
theorem Left.trans {b : Nat} {a : Option Addr} {len cap : Nat} {u v w : World} (h : Left b a len cap u v) (k : Left b a len cap v w) : Left b a len cap u w := ⟨k.1, h.2.trans k.2⟩
theorem Left.refl {b : Nat} {a : Option Addr} {len cap : Nat} {w : World} (h : Rdr w b a len cap) : Left b a len cap w w := ⟨h, Kp.refl _ _⟩
theorem Rdr.drew {b : Nat} {a : Option Addr} {len cap : Nat} {w : World} (h : Rdr w b a len cap) : Rdr w.drew b a len cap := h
theorem Rdr.drewN {b : Nat} {a : Option Addr} {len cap : Nat} {w : World} (h : Rdr w b a len cap) (n : Nat) : Rdr (w.drewN n) b a len cap := h
theorem Left.drew {b : Nat} {a : Option Addr} {len cap : Nat} {u w : World} (h : Left b a len cap u w) : Left b a len cap u w.drew := ⟨h.1, h.2.drew⟩
theorem Left.drewN {b : Nat} {a : Option Addr} {len cap : Nat} {u w : World} (h : Left b a len cap u w) (n : Nat) : Left b a len cap u (w.drewN n) := ⟨h.1, h.2.drewN n⟩
theorem Code.alloc {a : Option Addr} {len : Nat} {w : World} (h : Code w a len) (o : Obj) : Code (w.alloc o) a len := by
  refine ⟨h.1, ?_⟩
  rcases h.2 with h0 | ⟨cb, co, ha, hc⟩
  · exact .inl h0
  · refine .inr ⟨cb, co, ha, fun i hi => ?_⟩
    obtain ⟨z, hz, h1⟩ := hc i hi
    refine ⟨z, ?_, h1⟩
    have hlt := World.block_lt_of_cell? w _ hz
    rw [World.cell?_of_block (w := w) (Below.heap_alloc w o cb hlt)]
    exact hz
theorem Rdr.alloc {b : Nat} {a : Option Addr} {len cap : Nat} {w : World} (h : Rdr w b a len cap) (o : Obj) : Rdr (w.alloc o) b a len cap := by
  obtain ⟨⟨p, hp, hh⟩, hc, hn⟩ := h
  refine ⟨⟨p, hp, ?_⟩, hc.alloc o, hn⟩
  rw [Below.heap_alloc w o b (Array.getElem?_eq_some_iff.1 hh).1]
  exact hh
theorem Left.alloc {b : Nat} {a : Option Addr} {len cap : Nat} {u w : World} (h : Left b a len cap u w) (o : Obj) : Left b a len cap u (w.alloc o) := ⟨h.1.alloc o, h.2.alloc o⟩

set_option maxHeartbeats 400000 in
theorem next_c (b : Nat) (a : Option Addr) (len cap : Nat) (w : World) (h : Rdr w b a len cap) : Calls Tryd.prog 42 #[.pointer (some ⟨b, 0, none⟩)] w fun e w' => ∃ n : Int, e = .returned (.int .i64 n) ∧ 0 ≤ n ∧ n ≤ 255 ∧ Left b a len cap w w' := by
  obtain ⟨⟨p, hp, hh⟩, hc, hn⟩ := h
  have c0 : w.cell? ⟨b, 0, none⟩ = some (.slice a len cap) := by simp [World.cell?, hh]
  have c1 : w.cell? ⟨b, 1, none⟩ = some (.int .i64 p) := by simp [World.cell?, hh]
  have f1 : w.frozen? ⟨b, 1, none⟩ = false := by simp [World.frozen?, hh]
  have hl := hc.1
  by_cases hge : len ≤ p
  · have R : Hid (Rdr w b a len cap) := ⟨⟨p, hp, hh⟩, hc, hn⟩
    have hge' : (len : Int) ≤ (p : Int) := by omega
    clear hh hc hn
    go_enter Tryd.func42, Tryd.ntmps42
    go_wp2
    go_quiet (fail)
    go_wp2
    go_ret
    exact ⟨0, rfl, by decide, by decide, (Left.refl R.out).drewN _⟩
  · have R : Hid (∀ m n, Rdr (((w.drewN m).setCell ⟨b, 1, none⟩ (.int .i64 ((p : Int) + 1))).drewN n) b a len cap ∧ Kp b w (((w.drewN m).setCell ⟨b, 1, none⟩ (.int .i64 ((p : Int) + 1))).drewN n)) := fun m n => rdr_moved m n (by omega) hh hc hn
    rcases hc.2 with h0 | ⟨cb, co, ha, hcs⟩
    · omega
    obtain ⟨z, hz, z0, z1⟩ := hcs p (by omega)
    have hge' : ¬ (len : Int) ≤ (p : Int) := by omega
    have hcb : cb ≠ b := hn _ ha (by omega)
    subst ha
    clear hh hc hn hcs
    go_enter Tryd.func42, Tryd.ntmps42
    go_wp2
    go_quiet (fail)
    go_wp2
    go_quiet (fail)
    go_wp2
    go_ret
    exact ⟨z, rfl, z0, z1, R.out _ _⟩

set_option maxHeartbeats 400000 in
theorem below_c (b : Nat) (a : Option Addr) (len cap : Nat) (n : Int) (hn : n ≤ 1000000000) (w : World) (h : Rdr w b a len cap) : Calls Tryd.prog 26 #[.pointer (some ⟨b, 0, none⟩), .int .i64 n] w fun e w' => ∃ r : Int, e = .returned (.int .i64 r) ∧ 0 ≤ r ∧ r ≤ 1000000000 ∧ (r < n ∨ r = 0) ∧ Left b a len cap w w' := by
  have R : Hid (Rdr w b a len cap) := h
  clear h
  by_cases h1 : n ≤ 1
  · go_enter Tryd.func26, Tryd.ntmps26
    go_wp2
    go_ret
    exact ⟨0, rfl, by decide, by decide, .inr rfl, Left.refl R.out⟩
  have hz : ¬ n = 0 := by omega
  by_cases h2 : n ≤ 256
  · go_enter Tryd.func26, Tryd.ntmps26
    go_wp2_with fail
    refine (next_c _ _ _ _ _ R.out).mono ?_
    rintro e w' ⟨x, rfl, x0, x1, hl⟩
    have HL : Hid (Left b a len cap w w') := hl
    clear hl
    have t0 := Int.emod_nonneg x hz
    have t1 := Int.emod_lt_of_pos x (show 0 < n by omega)
    go_wp2
    go_ret
    exact ⟨x % n, rfl, t0, by omega, .inl t1, HL.out⟩
  · go_enter Tryd.func26, Tryd.ntmps26
    go_wp2_with fail
    refine (next_c _ _ _ _ _ R.out).mono ?_
    rintro e w' ⟨x, rfl, x0, x1, hl⟩
    have HL : Hid (Left b a len cap w w') := hl
    clear hl
    go_wp2_with fail
    refine (next_c _ _ _ _ _ HL.out.1).mono ?_
    rintro e w2 ⟨y, rfl, y0, y1, hl2⟩
    have HL2 : Hid (Left b a len cap w w2) := HL.out.trans hl2
    clear hl2
    have t0 := Int.emod_nonneg (x * 256 + y) hz
    have t1 := Int.emod_lt_of_pos (x * 256 + y) (show 0 < n by omega)
    go_wp2
    go_ret
    exact ⟨(x * 256 + y) % n, rfl, t0, by omega, .inl t1, HL2.out⟩

theorem once_c (b : Nat) (a : Option Addr) (len cap : Nat) (n : Int) (hn : n ≤ 1000000000) (hn' : -1000000 ≤ n) (w : World) (h : Rdr w b a len cap) : Calls Tryd.prog 49 #[.pointer (some ⟨b, 0, none⟩), .int .i64 n] w fun e w' => ∃ r : Bool, e = .returned (.bool r) ∧ Left b a len cap w w' := by
  have R : Hid (Rdr w b a len cap) := h
  clear h
  go_enter Tryd.func49, Tryd.ntmps49
  go_wp2_with fail
  refine (below_c _ _ _ _ _ hn _ R.out).mono ?_
  rintro e w' ⟨x, rfl, x0, x1, x2, hl⟩
  have HL : Hid (Left b a len cap w w') := hl
  clear hl x2
  go_wp2
  go_ret
  exact ⟨_, rfl, HL.out⟩

set_option maxHeartbeats 400000 in
theorem word_c (b : Nat) (a : Option Addr) (len cap : Nat) (w : World) (h : Rdr w b a len cap) : Calls Tryd.prog 60 #[.pointer (some ⟨b, 0, none⟩)] w fun e w' => ∃ r : Int, e = .returned (.int .u64 r) ∧ 0 ≤ r ∧ r ≤ 18446744073709551615 ∧ Left b a len cap w w' := by
  have R : Hid (Rdr w b a len cap) := h
  clear h
  go_enter Tryd.func60, Tryd.ntmps60
  go_wp2
  go_loopw [3, 4] (fun x i wr => ∃ k : Nat, k ≤ 8 ∧ i = .int .i64 k ∧ (∃ r : Int, x = .int .u64 r ∧ 0 ≤ r ∧ r ≤ 18446744073709551615) ∧ Left b a len cap w wr) (fun _ i _ => 8 - (intOf i).toNat)
  case atStart => exact ⟨0, Nat.zero_le _, rfl, ⟨0, rfl, by decide, by decide⟩, Left.refl R.out⟩
  case round =>
    obtain ⟨k, hk, rfl, ⟨r, rfl, r0, r1⟩, hl⟩ := hrel
    have HL : Hid (Left b a len cap w wr) := hl
    clear hl
    by_cases hlt : k < 8
    · go_wp2_with fail
      refine (next_c _ _ _ _ _ HL.out.1).mono ?_
      rintro e w2 ⟨y, rfl, y0, y1, hl2⟩
      have HL2 : Hid (Left b a len cap w w2) := HL.out.trans hl2
      clear hl2
      go_wp2
      go_roundw
      case rel => exact ⟨k + 1, by omega, by go_num, ⟨_, rfl, or_u64_nonneg _ _, or_u64_le _ _⟩, HL2.out⟩
      case measure => simp [intOf]; omega
    · go_wp2
      go_ret
      exact ⟨r, rfl, r0, r1, HL.out⟩
end Go.Proofs.YtppchebikafmeaaDoor
