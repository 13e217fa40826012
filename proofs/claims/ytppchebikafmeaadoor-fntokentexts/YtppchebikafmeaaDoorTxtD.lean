/- A token's text: the specification's. -/
import Derived.Test.YtppchebikafmeaaDoorTxtC
namespace Go.Proofs.YtppchebikafmeaaDoor
open Go.RowKit
set_option linter.unusedSimpArgs false
set_option linter.unusedVariables false

def entT (p : Int × Int) : ByteArray := decB p.1.toNat ++ (⟨#[58]⟩ : ByteArray) ++ decB p.2.toNat
/-- The text of a token. -/
def txt (zs : List (Int × Int)) : ByteArray := match zs with
  | [] => ⟨#[45]⟩
  | z :: r => r.foldl (fun s p => s ++ (⟨#[32]⟩ : ByteArray) ++ entT p) (entT z)
theorem txt_snoc (l : List (Int × Int)) (p : Int × Int) : txt (l ++ [p]) = if l.length = 0 then entT p else txt l ++ (⟨#[32]⟩ : ByteArray) ++ entT p := by
  cases l with
  | nil => rfl
  | cons z r => simp [txt, List.foldl_append]
theorem txt_take (zs : List (Int × Int)) (k : Nat) (h : k < zs.length) : txt (zs.take (k + 1)) = if k = 0 then entT zs[k] else txt (zs.take k) ++ (⟨#[32]⟩ : ByteArray) ++ entT zs[k] := by
  rw [List.take_succ_eq_append_getElem h, txt_snoc]
  by_cases e : k = 0
  · subst e; simp
  · rw [if_neg (by rw [List.length_take]; omega), if_neg e]
/-- Entries of a token are small numbers. -/
theorem tok_nums {zs : List (Int × Int)} (h : tokB zs = true) (k : Nat) (hk : k < zs.length) : ∃ a b : Nat, zs[k] = ((a : Int), (b : Int)) ∧ a < 100 ∧ b < 100 := by
  unfold tokB at h
  rw [Bool.and_eq_true] at h
  have q := List.all_eq_true.1 h.2 zs[k] (List.getElem_mem _)
  unfold entB at q
  rw [Bool.and_eq_true] at q
  have q1 := of_decide_eq_true q.1
  have q2 := of_decide_eq_true q.2
  refine ⟨zs[k].1.toNat, zs[k].2.toNat, ?_, by omega, by omega⟩
  ext
  · show zs[k].1 = _; omega
  · show zs[k].2 = _; omega
theorem entT_size {a b : Nat} (ha : a < 100) (hb : b < 100) : (entT ((a : Int), (b : Int))).size ≤ 5 := by
  have h1 := decB_size a ha
  have h2 := decB_size b hb
  unfold entT
  rw [ByteArray.size_append, ByteArray.size_append]
  have : (⟨#[58]⟩ : ByteArray).size = 1 := rfl
  simp only [Int.toNat_natCast]
  omega
theorem txt_size {zs : List (Int × Int)} (h : tokB zs = true) : ∀ k, k ≤ zs.length → (txt (zs.take k)).size ≤ 6 * k + 1 := by
  intro k
  induction k with
  | zero => intro _; simp [txt, ByteArray.size]
  | succ k ih =>
    intro hk
    obtain ⟨a, b, e, ha, hb⟩ := tok_nums h k (by omega)
    have s1 := entT_size ha hb
    rw [txt_take zs k (by omega), e]
    by_cases e0 : k = 0
    · rw [if_pos e0]; omega
    · rw [if_neg e0, ByteArray.size_append, ByteArray.size_append]
      have := ih (by omega)
      have : (⟨#[32]⟩ : ByteArray).size = 1 := rfl
      omega
set_option maxRecDepth 20000 in
set_option maxHeartbeats 8000000 in
theorem sTokenText_c (a : Option Addr) (cap : Nat) (zs : List (Int × Int)) (w : World) (h : Ivs w a zs) : Calls Tryd.prog 12 #[.slice a zs.length cap] w fun e w' => e = .returned (.string (if tokB zs = true then txt zs else ⟨#[]⟩)) ∧ Below w.heap.size w w' := by
  have HI := hide h
  obtain ⟨V, hV⟩ : ∃ V, V = (if tokB zs = true then txt zs else ⟨#[]⟩) := ⟨_, rfl⟩
  rw [← hV]
  have HV := hide hV
  clear h hV
  go_enter Tryd.func12, Tryd.ntmps12
  go_wp2_with fail
  refine (sTokenOk_c a cap zs _ (unhide HI)).mono ?_
  rintro e w1 ⟨rfl, rfl⟩
  cases h1 : tokB zs
  · have HN := hide (show V = ⟨#[]⟩ by rw [unhide HV, h1]; rfl)
    clear h1 HV
    go_wp2
    go_ret
    exact ⟨by rw [unhide HN]; rfl, Below.refl _ _⟩
  have H1 := hide h1
  have HN := hide (show V = txt zs by rw [unhide HV, h1]; rfl)
  have HL := hide (show zs.length ≤ 3 by unfold tokB at h1; rw [Bool.and_eq_true] at h1; exact of_decide_eq_true h1.1)
  have HSZ := hide (txt_size h1)
  have hl : (zs.length : Int) ≤ 3 := by have := unhide HL; omega
  clear h1 HV
  go_wp2
  go_loopw [3, 4] (fun s i wr => ∃ (k : Nat) (t : ByteArray), k ≤ zs.length ∧ i = .int .i64 k ∧ s = .string t ∧ Hid (t = txt (zs.take k)) ∧ Below w1.heap.size w1 wr) (fun _ i _ => zs.length - (intOf i).toNat)
  case atStart => exact ⟨0, _, Nat.zero_le _, rfl, rfl, rfl, Below.refl _ _⟩
  case round =>
    obtain ⟨k, t, hk, rfl, rfl, HTT, hb⟩ := hrel
    have HB := hide hb
    by_cases hlt : k < zs.length
    · obtain ⟨x, y, hxy, hx, hy⟩ := tok_nums (unhide H1) k hlt
      rcases (unhide HI).2 with h0 | ⟨cb, co, rfl, hc⟩
      · omega
      have c0 := (hb.cell (World.block_lt_of_cell? _ _ (hc k hlt).1)).trans (hc k hlt).1
      have c1 := (hb.cell (World.block_lt_of_cell? _ _ (hc k hlt).2)).trans (hc k hlt).2
      rw [hxy] at c0 c1
      have s3 : t.size ≤ 20 := by have := (unhide HSZ) k hk; have := unhide HL; rw [unhide HTT]; omega
      have HT := hide (txt_take zs k hlt)
      rw [hxy, ← unhide HTT, show entT ((x : Int), (y : Int)) = decB x ++ (⟨#[58]⟩ : ByteArray) ++ decB y from rfl] at HT
      have s1 := decB_size x hx
      have s2 := decB_size y hy
      have k1 : ∀ w, Calls Tryd.prog 32 #[.int .i64 (x : Int)] w fun e w' => e = .returned (.string (decB x)) ∧ Below w.heap.size w w' := fun w => l1Dec_c x hx w
      have k2 : ∀ w, Calls Tryd.prog 32 #[.int .i64 (y : Int)] w fun e w' => e = .returned (.string (decB y)) ∧ Below w.heap.size w w' := fun w => l1Dec_c y hy w
      generalize decB x = X at s1 HT k1
      generalize decB y = Y at s2 HT k2
      have K1 := hide k1
      have K2 := hide k2
      have s1' : (X.size : Int) ≤ 2 := by omega
      have s2' : (Y.size : Int) ≤ 2 := by omega
      have s5 : (X ++ (⟨#[58]⟩ : ByteArray)).size ≤ 3 := by
        rw [ByteArray.size_append]
        have : (⟨#[58]⟩ : ByteArray).size = 1 := rfl
        omega
      have s5' : ((X ++ (⟨#[58]⟩ : ByteArray)).size : Int) ≤ 3 := by omega
      have s6 : (⟨#[58]⟩ : ByteArray).size = 1 := rfl
      have n1 : ¬ (9223372036854775807 < X.size + 1) := by omega
      have n2 : ¬ (9223372036854775807 < X.size + 1 + Y.size) := by omega
      have hh : H2 wr ⟨cb, co + k * 2, none⟩ ⟨cb, co + k * 2 + 1, none⟩ (.int .i64 (x : Int)) (.int .i64 (y : Int)) wr := ⟨c0, c1, Below.refl _ _⟩
      have hlt' : (k : Int) < (zs.length : Int) := by omega
      clear hc hxy hb c0 c1 k1 k2 hx hy
      go_wp2_with fail
      go_region_held3 (H2 wr ⟨cb, co + k * 2, none⟩ ⟨cb, co + k * 2 + 1, none⟩ (.int .i64 (x : Int)) (.int .i64 (y : Int)))
        (first | exact H2.drew (by assumption) | exact hq2 | exact hq)
        (first
          | (go_at_call 32; have hq0 := hq; refine ((unhide K2) _).mono ?_; rintro e u2 ⟨rfl, hb2⟩; have hq2 := H2.call hb2 hq)
          | (go_at_call 32; refine ((unhide K1) _).mono ?_; rintro e u1 ⟨rfl, hb1⟩; have hq := H2.call hb1 (H2.drew hh)))
      all_goals
        have HD := hide ((unhide HB).trans (hq2.2.2.mono (unhide HB).size))
        rename_i hHeld
        clear hHeld hh hq hq2 hb1 hb2 HB K1 K2
        by_cases e0 : k = 0
        · have HT2 : Hid (X ++ (⟨#[58]⟩ : ByteArray) ++ Y = txt (zs.take (k + 1))) := by
            have q := unhide HT
            rw [if_pos e0] at q
            exact q.symm
          subst e0
          go_wp2
          go_roundw
          case rel => exact ⟨1, _, by omega, by go_num, rfl, unhide HT2, unhide HD⟩
          case measure => simp [intOf]; omega
        · have e0' : ¬ ((k : Int) = 0) := by omega
          have HT2 : Hid (t ++ (⟨#[32]⟩ : ByteArray) ++ (X ++ (⟨#[58]⟩ : ByteArray) ++ Y) = txt (zs.take (k + 1))) := by
            have q := unhide HT
            rw [if_neg e0] at q
            exact q.symm
          have s4 : (X ++ (⟨#[58]⟩ : ByteArray) ++ Y).size ≤ 5 := by
            rw [ByteArray.size_append, ByteArray.size_append]
            have : (⟨#[58]⟩ : ByteArray).size = 1 := rfl
            omega
          clear e0
          go_wp2
          go_roundw
          case rel => exact ⟨k + 1, _, by omega, by go_num, rfl, unhide HT2, unhide HD⟩
          case measure => simp [intOf]; omega
    · have HE := hide (show t = txt zs by rw [unhide HTT, List.take_of_length_le (by omega)])
      have hlt' : ¬ ((k : Int) < (zs.length : Int)) := by omega
      clear hb
      go_wp2
      go_ret
      exact ⟨by rw [unhide HN, ← unhide HE]; rfl, unhide HB⟩
end Go.Proofs.YtppchebikafmeaaDoor
