/- The law of DeclOk: its walk. -/
import Derived.Test.YthldhjifnpfmiaaGreatDoorDoorC
namespace Go.Proofs.YthldhjifnpfmiaaGreatDoor
open Go.RowKit
set_option linter.unusedSimpArgs false

theorem szD_ok {vs fs : List ByteArray} {rs : List (ByteArray × Int)} {l : Int} (h0 : 0 ≤ l) (h1 : l ≤ 1048576) (h : 0 ≤ szD vs fs rs l) : ((vs.length : Int) ≤ 1048576 ∧ (fs.length : Int) ≤ 1048576 ∧ (rs.length : Int) ≤ 1048576) ∧ (∀ x ∈ namesOf vs fs rs, x.size ≤ 1048576) ∧ szD vs fs rs l ≤ l := by
  unfold szD at h ⊢
  split at h
  · omega
  · rename_i g1
    rw [if_neg g1]
    split at h
    · omega
    · rename_i g2
      rw [if_neg g2]
      have q1 := szS_le vs l h0
      have q2 := szS_le fs (szS vs l) (by omega)
      have q3 := szA_le rs (szS fs (szS vs l)) (by omega)
      have e1 := szS_len vs l (by omega)
      have e2 := szS_len fs (szS vs l) (by omega)
      have e3 := szS_len (rs.map (·.1)) (szS fs (szS vs l)) (by unfold szA at h; omega)
      rw [List.length_map] at e3
      refine ⟨⟨by omega, by omega, by omega⟩, fun x hx => ?_, by omega⟩
      unfold namesOf at hx
      rcases List.mem_append.1 hx with hx | hx
      · rcases List.mem_append.1 hx with hx | hx
        · have := e1.2 x hx; omega
        · have := e2.2 x hx; omega
      · have := e3.2 x hx; omega
end Go.Proofs.YthldhjifnpfmiaaGreatDoor
