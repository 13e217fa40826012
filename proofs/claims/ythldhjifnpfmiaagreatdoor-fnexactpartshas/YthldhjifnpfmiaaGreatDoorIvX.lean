/- What the program's and the specification's plain functions on intervals answer. -/
import Derived.Test.YthldhjifnpfmiaaGreatDoorNaZ
import Derived.ProofKit
import Derived.Deep.RegionHeld3
namespace Go.Proofs.YthldhjifnpfmiaaGreatDoor
open Go.RowKit
set_option linter.unusedSimpArgs false


/-- All old cells, all old marks read as before. -/
theorem bcell {W w1 : World} (hb : Below W.heap.size W w1) : (∀ b o, b < W.heap.size → w1.cell? ⟨b, o, none⟩ = W.cell? ⟨b, o, none⟩) ∧ (∀ b o, b < W.heap.size → w1.frozen? ⟨b, o, none⟩ = W.frozen? ⟨b, o, none⟩) :=
  ⟨fun b o h => hb.cell (p := ⟨b, o, none⟩) h, fun b o h => hb.frozen (p := ⟨b, o, none⟩) h⟩
theorem bcellB {B : Nat} {W w1 : World} (hb : Below B W w1) : (∀ b o, b < B → w1.cell? ⟨b, o, none⟩ = W.cell? ⟨b, o, none⟩) ∧ (∀ b o, b < B → w1.frozen? ⟨b, o, none⟩ = W.frozen? ⟨b, o, none⟩) :=
  ⟨fun b o h => hb.cell (p := ⟨b, o, none⟩) h, fun b o h => hb.frozen (p := ⟨b, o, none⟩) h⟩
/-- The lesser and the greater one of two, as the program tells them. -/
def mn (x y : Int) : Int := if y < x then y else x
def mx (x y : Int) : Int := if x < y then y else x
theorem mn_eq (x y : Int) : mn x y = min x y := by unfold mn; split <;> omega
theorem mx_eq (x y : Int) : mx x y = max x y := by unfold mx; split <;> omega
theorem hmn (x y : Int) : (if y < x then y else x) = mn x y := rfl
theorem hmx (x y : Int) : (if x < y then y else x) = mx x y := rfl
theorem ret_bool {a b : Bool} (h : a = b) : Ending.returned (.bool a) = .returned (.bool b) := by rw [h]

def leqB (al ah bl bh : Int) : Bool := decide (al ≤ ah ∧ bl ≤ bh ∧ bl ≤ al ∧ ah ≤ bh)
def hasB (l h n : Int) : Bool := decide (l ≤ n ∧ n ≤ h)
def joinL (al ah bl bh : Int) : Int := if al ≤ ah ∧ bl ≤ bh then mn al bl else 0
def joinH (al ah bl bh : Int) : Int := if al ≤ ah ∧ bl ≤ bh then mx ah bh else 0
/-- What two intervals both have: where one is not right, or there is nothing, the ends are the wrong way round. -/
def meetB (al ah bl bh : Int) : Bool := decide (mx al bl ≤ mn ah bh)
def meetL (al ah bl bh : Int) : Int := if mx al bl ≤ mn ah bh then mx al bl else 0
def meetH (al ah bl bh : Int) : Int := if mx al bl ≤ mn ah bh then mn ah bh else 0
def okB (l h : Int) : Bool := decide (l ≤ h)
def bothB (al ah bl bh : Int) : Bool := decide (al ≤ ah ∧ bl ≤ bh)

theorem IvOk_c (l h : Int) (w : World) : Calls Tryz.prog 98 #[.agg #[.int .i64 l, .int .i64 h]] w fun e w' => e = .returned (.bool (okB l h)) ∧ Below w.heap.size w w' := by
  go_enter Tryz.func98, Tryz.ntmps98
  go_wp2
  go_ret
  exact ⟨rfl, (Below.refl _ _).alloc (Nat.le_refl _) _⟩
theorem sIvOk_c (l h : Int) (w : World) : Calls Tryz.prog 91 #[.agg #[.int .i64 l, .int .i64 h]] w fun e w' => e = .returned (.bool (okB l h)) ∧ Below w.heap.size w w' := by
  go_enter Tryz.func91, Tryz.ntmps91
  go_wp2
  go_ret
  exact ⟨rfl, (Below.refl _ _).alloc (Nat.le_refl _) _⟩
theorem IvHas_c (l h n : Int) (w : World) : Calls Tryz.prog 104 #[.agg #[.int .i64 l, .int .i64 h], .int .i64 n] w fun e w' => e = .returned (.bool (hasB l h n)) ∧ Below w.heap.size w w' := by
  by_cases h1 : l ≤ n
  · go_enter Tryz.func104, Tryz.ntmps104
    go_wp2
    go_ret
    exact ⟨ret_bool (by unfold hasB; simp [h1]), (Below.refl _ _).alloc (Nat.le_refl _) _⟩
  · go_enter Tryz.func104, Tryz.ntmps104
    go_wp2
    go_ret
    exact ⟨ret_bool (by unfold hasB; simp; omega), (Below.refl _ _).alloc (Nat.le_refl _) _⟩
theorem sIvHas_c (l h n : Int) (w : World) : Calls Tryz.prog 56 #[.agg #[.int .i64 l, .int .i64 h], .int .i64 n] w fun e w' => e = .returned (.bool (hasB l h n)) ∧ Below w.heap.size w w' := by
  by_cases h1 : l ≤ n
  · go_enter Tryz.func56, Tryz.ntmps56
    go_wp2
    go_ret
    exact ⟨ret_bool (by unfold hasB; simp [h1]), (Below.refl _ _).alloc (Nat.le_refl _) _⟩
  · go_enter Tryz.func56, Tryz.ntmps56
    go_wp2
    go_ret
    exact ⟨ret_bool (by unfold hasB; simp; omega), (Below.refl _ _).alloc (Nat.le_refl _) _⟩
end Go.Proofs.YthldhjifnpfmiaaGreatDoor
