/- The program's widening. -/
import Derived.Test.YtojakiiohbmlaaaWidA
namespace Go.Proofs.Ytojakiiohbmlaaa
open Go.RowKit Go.Iv
set_option linter.unusedSimpArgs false

def widL (al ah bl bh : Int) (zs : List Int) : Int := if al ≤ ah ∧ bl ≤ bh ∧ zs.length ≤ 100 then (if bl < al then dn bl zs else al) else 0
def widH (al ah bl bh : Int) (zs : List Int) : Int := if al ≤ ah ∧ bl ≤ bh ∧ zs.length ≤ 100 then (if ah < bh then up bh zs else ah) else 0
theorem wid_bad1 (al ah bl bh : Int) (a : Option Addr) (n cap : Nat) (w : World) (h : ¬ (al ≤ ah ∧ bl ≤ bh)) : Calls Try.prog 29 #[.agg #[.int .i64 al, .int .i64 ah], .agg #[.int .i64 bl, .int .i64 bh], .slice a n cap] w fun e w' => e = .returned (.agg #[.int .i64 0, .int .i64 0]) ∧ Below w.heap.size w w' := by
  have e1 : bothB al ah bl bh = false := decide_eq_false h
  clear h
  go_enter Try.func29, Try.ntmps29
  go_wp2_with fail
  refine (bothOk_c _ _ _ _ _).mono ?_
  rintro e w1 ⟨rfl, hb1⟩
  have B1 := hb1.mono (show w.heap.size + 3 ≤ _ by simp)
  clear hb1
  obtain ⟨hc1, hf1⟩ := bcellB B1
  have K1 := hide (((((Below.refl _ w).alloc (Nat.le_refl _) _).alloc (by simp) _).alloc (by simp; omega) _).trans (B1.mono (by omega)))
  clear B1
  go_wp2
  exact bodyPost_ret (v := .agg #[.int .i64 0, .int .i64 0]) (by simp [results, Try.results29, go_sem, hc1]) rfl ⟨rfl, ((unhide K1).setCell (by simp; omega) _).setCell (by simp; omega) _⟩
theorem wid_bad2 (al ah bl bh : Int) (a : Option Addr) (n cap : Nat) (w : World) (h : al ≤ ah ∧ bl ≤ bh) (hn : 100 < n) (hm : n ≤ 1048576) : Calls Try.prog 29 #[.agg #[.int .i64 al, .int .i64 ah], .agg #[.int .i64 bl, .int .i64 bh], .slice a n cap] w fun e w' => e = .returned (.agg #[.int .i64 0, .int .i64 0]) ∧ Below w.heap.size w w' := by
  have e1 : bothB al ah bl bh = true := decide_eq_true h
  have hn' : (100 : Int) < (n : Int) := by omega
  clear h
  go_enter Try.func29, Try.ntmps29
  go_wp2_with fail
  refine (bothOk_c _ _ _ _ _).mono ?_
  rintro e w1 ⟨rfl, hb1⟩
  have B1 := hb1.mono (show w.heap.size + 3 ≤ _ by simp)
  clear hb1
  obtain ⟨hc1, hf1⟩ := bcellB B1
  have K1 := hide (((((Below.refl _ w).alloc (Nat.le_refl _) _).alloc (by simp) _).alloc (by simp; omega) _).trans (B1.mono (by omega)))
  clear B1
  go_wp2
  exact bodyPost_ret (v := .agg #[.int .i64 0, .int .i64 0]) (by simp [results, Try.results29, go_sem, hc1]) rfl ⟨rfl, ((unhide K1).setCell (by simp; omega) _).setCell (by simp; omega) _⟩
set_option maxHeartbeats 1000000 in
theorem wid_ok (al ah bl bh : Int) (a : Option Addr) (cap : Nat) (zs : List Int) (w : World) (h : al ≤ ah ∧ bl ≤ bh) (hn : zs.length ≤ 100) (hz : Ints w a zs) : Calls Try.prog 29 #[.agg #[.int .i64 al, .int .i64 ah], .agg #[.int .i64 bl, .int .i64 bh], .slice a zs.length cap] w fun e w' => e = .returned (.agg #[.int .i64 (if bl < al then dn bl zs else al), .int .i64 (if ah < bh then up bh zs else ah)]) ∧ Below w.heap.size w w' := by
  have e1 : bothB al ah bl bh = true := decide_eq_true h
  have HZ := hide hz
  obtain ⟨n, hN⟩ : ∃ n, n = zs.length := ⟨_, rfl⟩
  rw [← hN] at hn ⊢
  have HN := hide hN
  have hn' : (n : Int) ≤ 100 := by omega
  clear h hz hN
  by_cases h1 : bl < al
  · by_cases h2 : ah < bh
    · rw [if_pos h1, if_pos h2]
      go_enter Try.func29, Try.ntmps29
      go_wp2_with fail
      refine (bothOk_c _ _ _ _ _).mono ?_
      rintro e w1 ⟨rfl, hb1⟩
      have B1 := hb1.mono (show w.heap.size + 3 ≤ _ by simp)
      clear hb1
      obtain ⟨hc1, hf1⟩ := bcellB B1
      have z1 : w.heap.size + 3 ≤ w1.heap.size := by have := B1.size; simp at this; omega
      have ne1 : ¬ w.heap.size = w1.heap.size := by omega
      have ne2 : ¬ w.heap.size + 1 = w1.heap.size := by omega
      have ne3 : ¬ w.heap.size + 1 + 1 = w1.heap.size := by omega
      have K1 := hide (((((Below.refl _ w).alloc (Nat.le_refl _) _).alloc (by simp) _).alloc (by simp; omega) _).trans (B1.mono (by omega)))
      have p0 : ∀ o, (w1.alloc o).cell? ⟨w.heap.size, 0, none⟩ = some (.int .i64 al) := fun o => (World.cell?_alloc_lt _ _ _ (by show w.heap.size < _; omega)).trans ((hc1 _ _ (by omega)).trans (by simp [go_sem]))
      have p1 : ∀ o, (w1.alloc o).cell? ⟨w.heap.size, 1, none⟩ = some (.int .i64 ah) := fun o => (World.cell?_alloc_lt _ _ _ (by show w.heap.size < _; omega)).trans ((hc1 _ _ (by omega)).trans (by simp [go_sem]))
      have p2 : ∀ o, (w1.alloc o).cell? ⟨w.heap.size + 1, 0, none⟩ = some (.int .i64 bl) := fun o => (World.cell?_alloc_lt _ _ _ (by show w.heap.size + 1 < _; omega)).trans ((hc1 _ _ (by omega)).trans (by simp [go_sem]))
      have p3 : ∀ o, (w1.alloc o).cell? ⟨w.heap.size + 1, 1, none⟩ = some (.int .i64 bh) := fun o => (World.cell?_alloc_lt _ _ _ (by show w.heap.size + 1 < _; omega)).trans ((hc1 _ _ (by omega)).trans (by simp [go_sem]))
      have p5 : ∀ o, (w1.alloc o).cell? ⟨w.heap.size + 1 + 1, 0, none⟩ = some (.int .i64 0) := fun o => (World.cell?_alloc_lt _ _ _ (by show w.heap.size + 1 + 1 < _; omega)).trans ((hc1 _ _ (by omega)).trans (by simp [go_sem]))
      have p6 : ∀ o, (w1.alloc o).cell? ⟨w.heap.size + 1 + 1, 1, none⟩ = some (.int .i64 0) := fun o => (World.cell?_alloc_lt _ _ _ (by show w.heap.size + 1 + 1 < _; omega)).trans ((hc1 _ _ (by omega)).trans (by simp [go_sem]))
      have p7 : ∀ o i, (w1.alloc o).frozen? ⟨w.heap.size + 1 + 1, i, none⟩ = false := fun o i => (((Below.refl _ w1).alloc (Nat.le_refl _) o).frozen (by show w.heap.size + 1 + 1 < _; omega)).trans ((hf1 _ _ (by omega)).trans (by simp [go_sem]))
      clear B1
      go_wp2_with fail
      rw [unhide HN]
      refine (stepDown_c _ _ _ _ _ ?_).mono ?_
      · exact (unhide HZ).to ((unhide K1).alloc (unhide K1).size _) (unhide HZ).lt
      rintro e w2 ⟨rfl, rfl⟩
      rw [← unhide HN]
      go_wp2_with fail
      rw [unhide HN]
      refine (stepUp_c _ _ _ _ _ ?_).mono ?_
      · exact (unhide HZ).to ((unhide K1).alloc (unhide K1).size _) (unhide HZ).lt
      rintro e w2 ⟨rfl, rfl⟩
      rw [← unhide HN]
      go_wp2
      exact bodyPost_ret (v := .agg #[.int .i64 (dn bl zs), .int .i64 (up bh zs)]) (by simp [results, Try.results29, go_sem, p5, p6]) rfl ⟨rfl, (((unhide K1).alloc (unhide K1).size _).setCell (by simp; omega) _).setCell (by simp; omega) _⟩
    · rw [if_pos h1, if_neg h2]
      go_enter Try.func29, Try.ntmps29
      go_wp2_with fail
      refine (bothOk_c _ _ _ _ _).mono ?_
      rintro e w1 ⟨rfl, hb1⟩
      have B1 := hb1.mono (show w.heap.size + 3 ≤ _ by simp)
      clear hb1
      obtain ⟨hc1, hf1⟩ := bcellB B1
      have z1 : w.heap.size + 3 ≤ w1.heap.size := by have := B1.size; simp at this; omega
      have ne1 : ¬ w.heap.size = w1.heap.size := by omega
      have ne2 : ¬ w.heap.size + 1 = w1.heap.size := by omega
      have ne3 : ¬ w.heap.size + 1 + 1 = w1.heap.size := by omega
      have K1 := hide (((((Below.refl _ w).alloc (Nat.le_refl _) _).alloc (by simp) _).alloc (by simp; omega) _).trans (B1.mono (by omega)))
      have p0 : ∀ o, (w1.alloc o).cell? ⟨w.heap.size, 0, none⟩ = some (.int .i64 al) := fun o => (World.cell?_alloc_lt _ _ _ (by show w.heap.size < _; omega)).trans ((hc1 _ _ (by omega)).trans (by simp [go_sem]))
      have p1 : ∀ o, (w1.alloc o).cell? ⟨w.heap.size, 1, none⟩ = some (.int .i64 ah) := fun o => (World.cell?_alloc_lt _ _ _ (by show w.heap.size < _; omega)).trans ((hc1 _ _ (by omega)).trans (by simp [go_sem]))
      have p2 : ∀ o, (w1.alloc o).cell? ⟨w.heap.size + 1, 0, none⟩ = some (.int .i64 bl) := fun o => (World.cell?_alloc_lt _ _ _ (by show w.heap.size + 1 < _; omega)).trans ((hc1 _ _ (by omega)).trans (by simp [go_sem]))
      have p3 : ∀ o, (w1.alloc o).cell? ⟨w.heap.size + 1, 1, none⟩ = some (.int .i64 bh) := fun o => (World.cell?_alloc_lt _ _ _ (by show w.heap.size + 1 < _; omega)).trans ((hc1 _ _ (by omega)).trans (by simp [go_sem]))
      have p5 : ∀ o, (w1.alloc o).cell? ⟨w.heap.size + 1 + 1, 0, none⟩ = some (.int .i64 0) := fun o => (World.cell?_alloc_lt _ _ _ (by show w.heap.size + 1 + 1 < _; omega)).trans ((hc1 _ _ (by omega)).trans (by simp [go_sem]))
      have p6 : ∀ o, (w1.alloc o).cell? ⟨w.heap.size + 1 + 1, 1, none⟩ = some (.int .i64 0) := fun o => (World.cell?_alloc_lt _ _ _ (by show w.heap.size + 1 + 1 < _; omega)).trans ((hc1 _ _ (by omega)).trans (by simp [go_sem]))
      have p7 : ∀ o i, (w1.alloc o).frozen? ⟨w.heap.size + 1 + 1, i, none⟩ = false := fun o i => (((Below.refl _ w1).alloc (Nat.le_refl _) o).frozen (by show w.heap.size + 1 + 1 < _; omega)).trans ((hf1 _ _ (by omega)).trans (by simp [go_sem]))
      clear B1
      go_wp2_with fail
      rw [unhide HN]
      refine (stepDown_c _ _ _ _ _ ?_).mono ?_
      · exact (unhide HZ).to ((unhide K1).alloc (unhide K1).size _) (unhide HZ).lt
      rintro e w2 ⟨rfl, rfl⟩
      rw [← unhide HN]
      go_wp2
      exact bodyPost_ret (v := .agg #[.int .i64 (dn bl zs), .int .i64 (ah)]) (by simp [results, Try.results29, go_sem, p5, p6]) rfl ⟨rfl, (((unhide K1).alloc (unhide K1).size _).setCell (by simp; omega) _).setCell (by simp; omega) _⟩
  · by_cases h2 : ah < bh
    · rw [if_neg h1, if_pos h2]
      go_enter Try.func29, Try.ntmps29
      go_wp2_with fail
      refine (bothOk_c _ _ _ _ _).mono ?_
      rintro e w1 ⟨rfl, hb1⟩
      have B1 := hb1.mono (show w.heap.size + 3 ≤ _ by simp)
      clear hb1
      obtain ⟨hc1, hf1⟩ := bcellB B1
      have z1 : w.heap.size + 3 ≤ w1.heap.size := by have := B1.size; simp at this; omega
      have ne1 : ¬ w.heap.size = w1.heap.size := by omega
      have ne2 : ¬ w.heap.size + 1 = w1.heap.size := by omega
      have ne3 : ¬ w.heap.size + 1 + 1 = w1.heap.size := by omega
      have K1 := hide (((((Below.refl _ w).alloc (Nat.le_refl _) _).alloc (by simp) _).alloc (by simp; omega) _).trans (B1.mono (by omega)))
      have p0 : ∀ o, (w1.alloc o).cell? ⟨w.heap.size, 0, none⟩ = some (.int .i64 al) := fun o => (World.cell?_alloc_lt _ _ _ (by show w.heap.size < _; omega)).trans ((hc1 _ _ (by omega)).trans (by simp [go_sem]))
      have p1 : ∀ o, (w1.alloc o).cell? ⟨w.heap.size, 1, none⟩ = some (.int .i64 ah) := fun o => (World.cell?_alloc_lt _ _ _ (by show w.heap.size < _; omega)).trans ((hc1 _ _ (by omega)).trans (by simp [go_sem]))
      have p2 : ∀ o, (w1.alloc o).cell? ⟨w.heap.size + 1, 0, none⟩ = some (.int .i64 bl) := fun o => (World.cell?_alloc_lt _ _ _ (by show w.heap.size + 1 < _; omega)).trans ((hc1 _ _ (by omega)).trans (by simp [go_sem]))
      have p3 : ∀ o, (w1.alloc o).cell? ⟨w.heap.size + 1, 1, none⟩ = some (.int .i64 bh) := fun o => (World.cell?_alloc_lt _ _ _ (by show w.heap.size + 1 < _; omega)).trans ((hc1 _ _ (by omega)).trans (by simp [go_sem]))
      have p5 : ∀ o, (w1.alloc o).cell? ⟨w.heap.size + 1 + 1, 0, none⟩ = some (.int .i64 0) := fun o => (World.cell?_alloc_lt _ _ _ (by show w.heap.size + 1 + 1 < _; omega)).trans ((hc1 _ _ (by omega)).trans (by simp [go_sem]))
      have p6 : ∀ o, (w1.alloc o).cell? ⟨w.heap.size + 1 + 1, 1, none⟩ = some (.int .i64 0) := fun o => (World.cell?_alloc_lt _ _ _ (by show w.heap.size + 1 + 1 < _; omega)).trans ((hc1 _ _ (by omega)).trans (by simp [go_sem]))
      have p7 : ∀ o i, (w1.alloc o).frozen? ⟨w.heap.size + 1 + 1, i, none⟩ = false := fun o i => (((Below.refl _ w1).alloc (Nat.le_refl _) o).frozen (by show w.heap.size + 1 + 1 < _; omega)).trans ((hf1 _ _ (by omega)).trans (by simp [go_sem]))
      clear B1
      go_wp2_with fail
      rw [unhide HN]
      refine (stepUp_c _ _ _ _ _ ?_).mono ?_
      · exact (unhide HZ).to ((unhide K1).alloc (unhide K1).size _) (unhide HZ).lt
      rintro e w2 ⟨rfl, rfl⟩
      rw [← unhide HN]
      go_wp2
      exact bodyPost_ret (v := .agg #[.int .i64 (al), .int .i64 (up bh zs)]) (by simp [results, Try.results29, go_sem, p5, p6]) rfl ⟨rfl, (((unhide K1).alloc (unhide K1).size _).setCell (by simp; omega) _).setCell (by simp; omega) _⟩
    · rw [if_neg h1, if_neg h2]
      go_enter Try.func29, Try.ntmps29
      go_wp2_with fail
      refine (bothOk_c _ _ _ _ _).mono ?_
      rintro e w1 ⟨rfl, hb1⟩
      have B1 := hb1.mono (show w.heap.size + 3 ≤ _ by simp)
      clear hb1
      obtain ⟨hc1, hf1⟩ := bcellB B1
      have z1 : w.heap.size + 3 ≤ w1.heap.size := by have := B1.size; simp at this; omega
      have ne1 : ¬ w.heap.size = w1.heap.size := by omega
      have ne2 : ¬ w.heap.size + 1 = w1.heap.size := by omega
      have ne3 : ¬ w.heap.size + 1 + 1 = w1.heap.size := by omega
      have K1 := hide (((((Below.refl _ w).alloc (Nat.le_refl _) _).alloc (by simp) _).alloc (by simp; omega) _).trans (B1.mono (by omega)))
      have p0 : ∀ o, (w1.alloc o).cell? ⟨w.heap.size, 0, none⟩ = some (.int .i64 al) := fun o => (World.cell?_alloc_lt _ _ _ (by show w.heap.size < _; omega)).trans ((hc1 _ _ (by omega)).trans (by simp [go_sem]))
      have p1 : ∀ o, (w1.alloc o).cell? ⟨w.heap.size, 1, none⟩ = some (.int .i64 ah) := fun o => (World.cell?_alloc_lt _ _ _ (by show w.heap.size < _; omega)).trans ((hc1 _ _ (by omega)).trans (by simp [go_sem]))
      have p2 : ∀ o, (w1.alloc o).cell? ⟨w.heap.size + 1, 0, none⟩ = some (.int .i64 bl) := fun o => (World.cell?_alloc_lt _ _ _ (by show w.heap.size + 1 < _; omega)).trans ((hc1 _ _ (by omega)).trans (by simp [go_sem]))
      have p3 : ∀ o, (w1.alloc o).cell? ⟨w.heap.size + 1, 1, none⟩ = some (.int .i64 bh) := fun o => (World.cell?_alloc_lt _ _ _ (by show w.heap.size + 1 < _; omega)).trans ((hc1 _ _ (by omega)).trans (by simp [go_sem]))
      have p5 : ∀ o, (w1.alloc o).cell? ⟨w.heap.size + 1 + 1, 0, none⟩ = some (.int .i64 0) := fun o => (World.cell?_alloc_lt _ _ _ (by show w.heap.size + 1 + 1 < _; omega)).trans ((hc1 _ _ (by omega)).trans (by simp [go_sem]))
      have p6 : ∀ o, (w1.alloc o).cell? ⟨w.heap.size + 1 + 1, 1, none⟩ = some (.int .i64 0) := fun o => (World.cell?_alloc_lt _ _ _ (by show w.heap.size + 1 + 1 < _; omega)).trans ((hc1 _ _ (by omega)).trans (by simp [go_sem]))
      have p7 : ∀ o i, (w1.alloc o).frozen? ⟨w.heap.size + 1 + 1, i, none⟩ = false := fun o i => (((Below.refl _ w1).alloc (Nat.le_refl _) o).frozen (by show w.heap.size + 1 + 1 < _; omega)).trans ((hf1 _ _ (by omega)).trans (by simp [go_sem]))
      clear B1
      go_wp2
      exact bodyPost_ret (v := .agg #[.int .i64 (al), .int .i64 (ah)]) (by simp [results, Try.results29, go_sem, p5, p6]) rfl ⟨rfl, (((unhide K1).alloc (unhide K1).size _).setCell (by simp; omega) _).setCell (by simp; omega) _⟩
theorem IvWiden_c (al ah bl bh : Int) (a : Option Addr) (cap : Nat) (zs : List Int) (w : World) (hz : Ints w a zs) : Calls Try.prog 29 #[.agg #[.int .i64 al, .int .i64 ah], .agg #[.int .i64 bl, .int .i64 bh], .slice a zs.length cap] w fun e w' => e = .returned (.agg #[.int .i64 (widL al ah bl bh zs), .int .i64 (widH al ah bl bh zs)]) ∧ Below w.heap.size w w' := by
  by_cases h : al ≤ ah ∧ bl ≤ bh
  · by_cases hn : zs.length ≤ 100
    · rw [show widL al ah bl bh zs = _ from if_pos ⟨h.1, h.2, hn⟩, show widH al ah bl bh zs = _ from if_pos ⟨h.1, h.2, hn⟩]
      exact wid_ok al ah bl bh a cap zs w h hn hz
    · rw [show widL al ah bl bh zs = _ from if_neg (by omega), show widH al ah bl bh zs = _ from if_neg (by omega)]
      exact wid_bad2 al ah bl bh a _ cap w h (by omega) hz.1
  · rw [show widL al ah bl bh zs = _ from if_neg (fun k => h ⟨k.1, k.2.1⟩), show widH al ah bl bh zs = _ from if_neg (fun k => h ⟨k.1, k.2.1⟩)]
    exact wid_bad1 al ah bl bh a _ cap w h
end Go.Proofs.Ytojakiiohbmlaaa
