/- Numbers off a range, from a code. -/
import Derived.Test.YtpdnnpnclgcpoaaDoorIrZ
namespace Go.Proofs.YtpdnnpnclgcpoaaDoor
open Go.RowKit Go.Iv
set_option linter.unusedSimpArgs false
set_option linter.unusedVariables false

set_option maxHeartbeats 1000000 in
theorem near_c (b : Nat) (a : Option Addr) (len cap : Nat) (l g : Int) (hl : In l) (hg : In g) (hd : g - l < 18446744073709551615) (w : World) (h : Rdr w b a len cap) : Calls Tryd.prog 133 #[.pointer (some ⟨b, 0, none⟩), .int .i64 l, .int .i64 g] w fun e w' => ∃ n : Int, e = .returned (.int .i64 n) ∧ In n ∧ Left b a len cap w w' := by
  have R := hide h
  have XI := hide hl
  have YI := hide hg
  have HD := hide hd
  clear h hl hg hd
  go_enter Tryd.func133, Tryd.ntmps133
  go_wp2_with fail
  refine (below_c _ _ _ _ _ (by decide) _ (unhide R)).mono ?_
  rintro e w1 ⟨x, rfl, x0, x1, x2, hl⟩
  have HL := hide hl
  clear hl x2 R
  by_cases e0 : x = 0
  · have e0' : (x == 0) = true := by simpa using e0
    clear e0
    go_wp2
    go_ret
    exact ⟨l, rfl, unhide XI, unhide HL⟩
  have e0' : (x == 0) = false := by simpa using e0
  by_cases e1 : x = 1
  · have e1' : (x == 1) = true := by simpa using e1
    clear e0 e1
    go_wp2
    go_ret
    exact ⟨g, rfl, unhide YI, unhide HL⟩
  have e1' : (x == 1) = false := by simpa using e1
  clear e0 e1
  by_cases hgl : g < l
  · go_wp2
    go_ret
    exact ⟨l, rfl, unhide XI, unhide HL⟩
  go_wp2_with fail
  refine (word_c _ _ _ _ _ (unhide HL).1).mono ?_
  rintro e w2 ⟨y, rfl, y0, y1, hl⟩
  have HL2 := hide ((unhide HL).trans hl)
  clear hl
  have hnz : ¬ IntKind.u64.wrap (wrap64 (wrap64 (g - l) + 1)) = 0 := by
    have := unhide HD
    have := unhide XI
    have := unhide YI
    rw [IntKind.wrap_u64]
    unfold wrap64 In at *
    omega
  go_wp2
  go_ret
  exact ⟨_, rfl, wrap_in _, unhide HL2⟩
set_option maxHeartbeats 1000000 in
theorem off_c (b : Nat) (a : Option Addr) (len cap : Nat) (l g : Int) (hl : In l) (hg : In g) (hd : g - l < 18446744073709551615) (w : World) (h : Rdr w b a len cap) : Calls Tryd.prog 128 #[.pointer (some ⟨b, 0, none⟩), .int .i64 l, .int .i64 g] w fun e w' => ∃ n : Int, e = .returned (.int .i64 n) ∧ In n ∧ Left b a len cap w w' := by
  have R := hide h
  have X := hide (And.intro hl (And.intro hg hd))
  clear h hl hg hd
  go_enter Tryd.func128, Tryd.ntmps128
  go_wp2_with fail
  refine (once_c _ _ _ _ _ (by decide) (by decide) _ (unhide R)).mono ?_
  rintro e w1 ⟨r, rfl, hl⟩
  have HL := hide hl
  clear hl R
  cases r
  · go_wp2_with fail
    refine (near_c _ _ _ _ _ _ (unhide X).1 (unhide X).2.1 (unhide X).2.2 _ (unhide HL).1).mono ?_
    rintro e w2 ⟨n, rfl, hn, hl⟩
    have HL2 := hide ((unhide HL).trans hl)
    have N := hide hn
    clear hl hn HL
    go_wp2
    go_ret
    exact ⟨n, rfl, unhide N, unhide HL2⟩
  · have hlt : b < w1.heap.size := (unhide HL).1.lt
    go_wp2_with fail
    refine (below_c _ _ _ _ _ (by decide) _ ((unhide HL).1.alloc _)).mono ?_
    rintro e w2 ⟨y, rfl, y0, y1, y2, hl⟩
    have y3 : y < 4 := by omega
    have pk := pick4_kept hl.2 hlt y0 y3
    have HL2 := hide (((unhide HL).alloc _).trans hl)
    clear hl HL y2
    go_wp2
    go_ret
    exact ⟨_, rfl, pick4_in _ (wrap_in _) (wrap_in _) (by unfold In; decide) (by unfold In; decide), unhide HL2⟩
end Go.Proofs.YtpdnnpnclgcpoaaDoor
