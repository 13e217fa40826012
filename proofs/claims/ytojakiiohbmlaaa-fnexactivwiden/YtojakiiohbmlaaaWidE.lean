/- What the law's walk on widening needs. -/
import Derived.Test.YtojakiiohbmlaaaWidC
import Derived.Test.YtojakiiohbmlaaaWidD
import Derived.Test.YtojakiiohbmlaaaValD
namespace Go.Proofs.Ytojakiiohbmlaaa
open Go.RowKit Go.Iv
set_option linter.unusedSimpArgs false

theorem ints_of_row {w : World} {a : Option Addr} {len cap : Nat} {zs : List Int}
    (h : (a = none ∧ len = 0 ∧ cap = 0 ∧ zs = []) ∨ ∃ x, a = some x ∧ len ≤ cap ∧ cap ≤ maxLen ∧ zs.length = cap ∧ (∀ i, i < zs.length → w.cell? (x.add i) = some (.int .i64 (zs.getD i 0))) ∧ ∀ n ∈ zs, (Lit.int .i64 n).wf = true)
    (hb : len ≤ 1048576) : (zs.take len).length = len ∧ Ints w a (zs.take len) := by
  rcases h with ⟨_, h0, _, rfl⟩ | ⟨x, rfl, hl, hm, hz, hcell, hwz⟩
  · subst h0; exact ⟨rfl, by simp [Ints]⟩
  · have e : (zs.take len).length = len := by rw [List.length_take]; omega
    refine ⟨e, by omega, ?_⟩
    by_cases h0 : len = 0
    · exact .inl (by omega)
    · obtain ⟨b, off, spot⟩ := x
      have hc := hcell 0 (by omega)
      have hspot : spot = none := by simpa [Addr.add] using World.cell?_spot hc
      subst hspot
      have hadd : ∀ i, (⟨b, off, none⟩ : Addr).add i = ⟨b, off + i, none⟩ := by intro i; unfold Addr.add; split <;> simp_all
      refine .inr ⟨b, off, rfl, fun i hi => ?_⟩
      rw [← hadd i, hcell i (by omega)]
      have hz' : i < zs.length := by omega
      simp [List.getElem_take, List.getElem?_eq_getElem hz']
/-- A fresh pair of the call's own. -/
def Z2 (M B b : Nat) (w : World) : Prop := R2 b 0 0 w ∧ B + 2 ≤ b ∧ M ≤ b
theorem Z2.call {M B b : Nat} {w w1 : World} (hb : Below w.heap.size w w1) (h : Z2 M B b w) : Z2 M B b w1 := ⟨h.1.to hb h.1.2.1, h.2⟩
theorem Z2.new {w0 w : World} {M B : Nat} {x0 y0 x1 y1 : Int} (h : S2 w0 M B x0 y0 x1 y1 w) (t : TypeId) : Z2 M B w.heap.size (w.alloc (.cells #[.int .i64 0, .int .i64 0] t)) := ⟨R2.new w 0 0 t, h.2.2.2.2.2.2, h.2.2.2.2.2.1⟩
theorem Res2.ofZ {w0 w : World} {M B b : Nat} {x0 y0 x1 y1 : Int} (h : S2 w0 M B x0 y0 x1 y1 w) (z : Z2 M B b w) (x y : Int) :
    Res2 w0 M B x0 y0 x1 y1 (.pointer (some ⟨b, 0, none⟩)) x y ((w.setCell ⟨b, 0, none⟩ (.int .i64 x)).setCell ⟨b, 1, none⟩ (.int .i64 y)) :=
  Res2.set h z.2.1 z.2.2 z.1.1.1 z.1.1.2 x y
end Go.Proofs.Ytojakiiohbmlaaa
