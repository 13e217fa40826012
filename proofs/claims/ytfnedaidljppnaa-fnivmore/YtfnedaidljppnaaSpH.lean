/- The specification's boxes of corners. -/
import Derived.Test.YtfnedaidljppnaaSpB
import Derived.Laws.OwnMore
import Derived.Deep.RegionHeld3
import Derived.Deep.DeepCutAuto
namespace Go.Proofs.Ytfnedaidljppnaa
open Go.RowKit Go.Iv
set_option linter.unusedSimpArgs false

/-- The corners as the specification takes them. -/
def corL (f : Int → Int → Int) (al ah : Int) (ps : List (Int × Int)) : List Int := ps.flatMap fun p => [f al p.1, f ah p.1, f al p.2, f ah p.2]
theorem corL_at (f : Int → Int → Int) (al ah : Int) (ps : List (Int × Int)) (i : Nat) (hi : i < ps.length) (hn : ps.length ≤ 2) (pl ph : Int) (hp : ps[i]! = (pl, ph)) :
    (corL f al ah ps)[4 * i]? = some (f al pl) ∧ (corL f al ah ps)[4 * i + 1]? = some (f ah pl) ∧ (corL f al ah ps)[4 * i + 2]? = some (f al ph) ∧ (corL f al ah ps)[4 * i + 3]? = some (f ah ph) := by
  match ps, hi, hn, hp with
  | [p], hi, _, hp =>
    obtain rfl : i = 0 := by simp at hi; omega
    simp at hp; subst hp; simp [corL]
  | [p, p'], hi, _, hp =>
    rcases (show i = 0 ∨ i = 1 by simp at hi; omega) with rfl | rfl
    · simp at hp; subst hp; simp [corL]
    · simp at hp; subst hp; simp [corL]
  | _ :: _ :: _ :: _, _, hn, _ => exact absurd hn (by simp)
theorem corL_len (f : Int → Int → Int) (al ah : Int) (ps : List (Int × Int)) : (corL f al ah ps).length = 4 * ps.length := by
  induction ps with
  | nil => rfl
  | cons p ps ih => simp only [corL, List.flatMap_cons, List.length_append, List.length_cons, List.length_nil] at ih ⊢; omega
theorem get_of {L : List Int} {i : Nat} {e : Int} (h : L[i]? = some e) : ∃ hi : i < L.length, L[i] = e := by
  obtain ⟨hi, h⟩ := List.getElem?_eq_some_iff.1 h
  exact ⟨hi, h⟩

/-- What a round's region reads: two pairs; and the rows stay. -/
@[reducible] def SB (w : World) (F : List (Nat × Array Value × TypeId)) (L : List Int) (l : Value) (p : Nat) (m : Value) (q : Nat) (A B : Nat) (al ah pl ph : Int) (wx : World) : Prop :=
  wx.cell? ⟨A, 0, none⟩ = some (.int .i64 al) ∧ wx.cell? ⟨A, 1, none⟩ = some (.int .i64 ah) ∧ wx.cell? ⟨B, 0, none⟩ = some (.int .i64 pl) ∧ wx.cell? ⟨B, 1, none⟩ = some (.int .i64 ph) ∧ Hid (RB w F L l p m q wx ∧ (A, #[.int .i64 al, .int .i64 ah], 25) ∈ F ∧ (B, #[.int .i64 pl, .int .i64 ph], 25) ∈ F)
theorem SB.of {w wx : World} {F : List (Nat × Array Value × TypeId)} {L : List Int} {l m : Value} {p q A B : Nat} {al ah pl ph : Int} (h : RB w F L l p m q wx) (ha : (A, #[.int .i64 al, .int .i64 ah], 25) ∈ F) (hb : (B, #[.int .i64 pl, .int .i64 ph], 25) ∈ F) : SB w F L l p m q A B al ah pl ph wx :=
  ⟨cell_of_block (h.2.2.2.1 _ ha).1, cell_of_block (h.2.2.2.1 _ ha).1, cell_of_block (h.2.2.2.1 _ hb).1, cell_of_block (h.2.2.2.1 _ hb).1, h, ha, hb⟩
theorem SB.drew {w wx : World} {F : List (Nat × Array Value × TypeId)} {L : List Int} {l m : Value} {p q A B : Nat} {al ah pl ph : Int} (h : SB w F L l p m q A B al ah pl ph wx) : SB w F L l p m q A B al ah pl ph wx.drew :=
  SB.of ⟨(unhide h.2.2.2.2).1.1, (unhide h.2.2.2.2).1.2.1, (unhide h.2.2.2.2).1.2.2.1, (unhide h.2.2.2.2).1.2.2.2.1, (unhide h.2.2.2.2).1.2.2.2.2.drew⟩ (unhide h.2.2.2.2).2.1 (unhide h.2.2.2.2).2.2
theorem SB.alloc {w wx : World} {F : List (Nat × Array Value × TypeId)} {L : List Int} {l m : Value} {p q A B : Nat} {al ah pl ph : Int} (h : SB w F L l p m q A B al ah pl ph wx) (o : Obj) : SB w F L l p m q A B al ah pl ph (wx.alloc o) :=
  SB.of ((unhide h.2.2.2.2).1.alloc o) (unhide h.2.2.2.2).2.1 (unhide h.2.2.2.2).2.2

end Go.Proofs.Ytfnedaidljppnaa
