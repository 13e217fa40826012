/- What is drawn of alarms, from a code. -/
import Derived.Test.YtghommnbnafmkaaDoorDrawC
import Derived.Test.YtghommnbnafmkaaDoorAlmU
namespace Go.Proofs.YtghommnbnafmkaaDoor
open Go.RowKit Go.Iv
set_option linter.unusedSimpArgs false
set_option linter.unusedVariables false

set_option maxHeartbeats 1000000 in
theorem near_c (b : Nat) (a : Option Addr) (len cap : Nat) (l g : Int) (hl : In l) (hg : In g) (hd : g - l < 18446744073709551615) (w : World) (h : Rdr w b a len cap) : Calls Tryd.prog 29 #[.pointer (some ⟨b, 0, none⟩), .int .i64 l, .int .i64 g] w fun e w' => ∃ n : Int, e = .returned (.int .i64 n) ∧ In n ∧ Left b a len cap w w' := by
  have R := hide h
  have XI := hide hl
  have YI := hide hg
  have HD := hide hd
  clear h hl hg hd
  go_enter Tryd.func29, Tryd.ntmps29
  go_wp2_with fail
  refine (below_c _ _ _ _ _ (by decide) _ (unhide R)).mono ?_
  rintro e w1 ⟨x, rfl, x0, x1, x2, hl⟩
  have HL := hide hl
  clear hl x2 R
  by_cases e0 : x = 0
  · have e0' : (x == 0) = true := by simpa using e0
    clear e0
    go_wp2
    go_ret
    exact ⟨l, rfl, unhide XI, unhide HL⟩
  have e0' : (x == 0) = false := by simpa using e0
  by_cases e1 : x = 1
  · have e1' : (x == 1) = true := by simpa using e1
    clear e0 e1
    go_wp2
    go_ret
    exact ⟨g, rfl, unhide YI, unhide HL⟩
  have e1' : (x == 1) = false := by simpa using e1
  clear e0 e1
  by_cases hgl : g < l
  · go_wp2
    go_ret
    exact ⟨l, rfl, unhide XI, unhide HL⟩
  go_wp2_with fail
  refine (word_c _ _ _ _ _ (unhide HL).1).mono ?_
  rintro e w2 ⟨y, rfl, y0, y1, hl⟩
  have HL2 := hide ((unhide HL).trans hl)
  clear hl
  have hnz : ¬ IntKind.u64.wrap (wrap64 (wrap64 (g - l) + 1)) = 0 := by
    have := unhide HD
    have := unhide XI
    have := unhide YI
    rw [IntKind.wrap_u64]
    unfold wrap64 In at *
    omega
  go_wp2
  go_ret
  exact ⟨_, rfl, wrap_in _, unhide HL2⟩
set_option maxHeartbeats 1000000 in
theorem off_c (b : Nat) (a : Option Addr) (len cap : Nat) (l g : Int) (hl : In l) (hg : In g) (hd : g - l < 18446744073709551615) (w : World) (h : Rdr w b a len cap) : Calls Tryd.prog 17 #[.pointer (some ⟨b, 0, none⟩), .int .i64 l, .int .i64 g] w fun e w' => ∃ n : Int, e = .returned (.int .i64 n) ∧ In n ∧ Left b a len cap w w' := by
  have R := hide h
  have X := hide (And.intro hl (And.intro hg hd))
  clear h hl hg hd
  go_enter Tryd.func17, Tryd.ntmps17
  go_wp2_with fail
  refine (once_c _ _ _ _ _ (by decide) (by decide) _ (unhide R)).mono ?_
  rintro e w1 ⟨r, rfl, hl⟩
  have HL := hide hl
  clear hl R
  cases r
  · go_wp2_with fail
    refine (near_c _ _ _ _ _ _ (unhide X).1 (unhide X).2.1 (unhide X).2.2 _ (unhide HL).1).mono ?_
    rintro e w2 ⟨n, rfl, hn, hl⟩
    have HL2 := hide ((unhide HL).trans hl)
    have N := hide hn
    clear hl hn HL
    go_wp2
    go_ret
    exact ⟨n, rfl, unhide N, unhide HL2⟩
  · have hlt : b < w1.heap.size := (unhide HL).1.lt
    go_wp2_with fail
    refine (below_c _ _ _ _ _ (by decide) _ ((unhide HL).1.alloc _)).mono ?_
    rintro e w2 ⟨y, rfl, y0, y1, y2, hl⟩
    have y3 : y < 4 := by omega
    have pk := pick4_kept hl.2 hlt y0 y3
    have HL2 := hide (((unhide HL).alloc _).trans hl)
    clear hl HL y2
    go_wp2
    go_ret
    exact ⟨_, rfl, pick4_in _ (wrap_in _) (wrap_in _) (by unfold In; decide) (by unfold In; decide), unhide HL2⟩
theorem C2.kp {u v : World} {g b : Nat} {x y : Value} (h : C2 u g x y) (k : Kp b u v) (hne : g ≠ b) : C2 v g x y := by
  have hg := k.block g h.lt hne
  exact ⟨(World.cell?_of_block (w := u) hg).trans h.1, (World.cell?_of_block (w := u) hg).trans h.2.1, fun o => (World.frozen?_of_block (w := u) hg).trans (h.2.2 o)⟩
theorem C2.set0 {u : World} {b : Nat} {x y : Value} (h : C2 u b x y) (v : Value) : C2 (u.setCell ⟨b, 0, none⟩ v) b v y := by
  refine ⟨World.cell?_setCell_same _ _ _ h.1, ?_, fun o => (World.frozen?_setCell _ _ _ _).trans (h.2.2 o)⟩
  rw [World.cell?_setCell_other _ _ _ _ (by simp)]
  exact h.2.1
/-- Some alarm. -/
def AlmR (e : Ending) : Prop := ∃ l k : Int, e = .returned (.agg #[.int .i64 l, .int .i64 k])
/-- The reader, the answer's cells, and what was there. -/
def RS (w : World) (a : Option Addr) (len cap : Nat) (u : World) : Prop := Rdr u (w.heap.size + 1) a len cap ∧ C2 u w.heap.size (.int .i64 0) (.int .i64 0) ∧ Below w.heap.size w u
theorem RS.left {w u v : World} {a : Option Addr} {len cap : Nat} (h : RS w a len cap u) (l : Left (w.heap.size + 1) a len cap u v) : RS w a len cap v :=
  ⟨l.1, h.2.1.kp l.2 (by omega), h.2.2.trans (l.2.below (by omega) h.2.2.size)⟩
theorem RS.alloc {w u : World} {a : Option Addr} {len cap : Nat} (h : RS w a len cap u) (o : Obj) : RS w a len cap (u.alloc o) :=
  ⟨h.1.alloc o, h.2.1.call ((Below.refl _ _).alloc (Nat.le_refl _) _), h.2.2.alloc h.2.2.size o⟩
set_option maxRecDepth 20000 in
set_option maxHeartbeats 8000000 in
theorem DrawAlarmText_c (a : Option Addr) (len cap : Nat) (w : World) (h : Code w a len) : Calls Tryd.prog 7 #[.slice a len cap] w fun e w' => AlmR e ∧ Below w.heap.size w w' := by
  have HC := hide (h.alloc (Obj.cells #[.int .i64 0, .int .i64 0] 25))
  have HB := hide (D2.new w (.int .i64 0) (.int .i64 0) 25)
  clear h
  have hz : (w.alloc (Obj.cells #[.int .i64 0, .int .i64 0] 25)).heap.size = w.heap.size + 1 := by simp
  go_enter Tryd.func7, Tryd.ntmps7
  go_upto_region 1 with fail
  generalize w.alloc (Obj.cells #[.int .i64 0, .int .i64 0] 25) = u at HB HC hz ⊢
  go_wp2_with fail
  refine (open_c a len cap _).mono ?_
  rintro e u1 ⟨rfl, he⟩
  have hl := open_rdr a len cap u (unhide HC)
  rw [← he] at hl
  rw [hz] at hl ⊢
  have HS : Hid (RS w a len cap u1) := ⟨hl.1, (unhide HB).1.kp hl.2 (by omega), (unhide HB).2.trans (hl.2.below (by omega) (unhide HB).2.size)⟩
  clear hl he HB HC hz
  go_wp2_with fail
  refine (below_c _ _ _ _ _ (by decide) _ (unhide HS).1).mono ?_
  rintro e u2 ⟨x, rfl, x0, x1, x2, hl⟩
  have HS := hide ((unhide HS).left hl)
  clear hl
  go_wp2_with fail
  refine (below_c _ _ _ _ _ (by decide) _ (unhide HS).1).mono ?_
  rintro e u3 ⟨y, rfl, y0, y1, y2, hl⟩
  have HS := hide ((unhide HS).left hl)
  clear hl
  have y3 : y < 4 := by omega
  have hgl : w.heap.size + 1 < u3.heap.size := (unhide HS).1.lt
  generalize hzz : wrap64 (2 ^ y.toNat) = z
  have HA := hide (C2.new u3 (.int .i64 x) (.int .i64 z) 25)
  have HS2 := hide ((unhide HS).alloc (Obj.cells #[.int .i64 x, .int .i64 z] 25))
  go_upto_region 3 with fail
  rw [hzz]
  clear hzz
  generalize u3.alloc (Obj.cells #[.int .i64 x, .int .i64 z] 25) = u4 at HA HS2 ⊢
  obtain ⟨g, hg⟩ : ∃ g, g = u3.heap.size := ⟨_, rfl⟩
  rw [← hg] at HA hgl ⊢
  have HGL := hide hgl
  have HS := HS2
  clear hg hgl HS2 x0 x1 x2 y0 y1 y2 y3
  go_wp2_with fail
  refine (below_c _ _ _ _ _ (by decide) _ (unhide HS).1).mono ?_
  rintro e u5 ⟨r, rfl, r0, r1, r2, hl⟩
  have HG := hide ((unhide HA).kp hl.2 (by have := unhide HGL; omega))
  have HS := hide ((unhide HS).left hl)
  clear hl HA
  by_cases e0 : r = 0
  · have e0' : (r == 0) = true := by simpa using e0
    clear e0
    go_wp2_with fail
    refine (off_c _ _ _ _ _ _ (by unfold In; decide) (by unfold In; decide) (by decide) _ (unhide HS).1).mono ?_
    rintro e v1 ⟨n, rfl, hn, hl⟩
    have HG := hide ((unhide HG).kp hl.2 (by have := unhide HGL; omega))
    have HS := hide ((unhide HS).left hl)
    clear hl hn
    have f0 := (unhide HG).2.2 0
    have f1 := (unhide HG).2.2 1
    have c0 := (unhide HG).1
    have c1 := (unhide HG).2.1
    have HG2 := hide ((unhide HG).set0 (.int .i64 n))
    have HD := hide (D2.other (c := g) (o := 0) (show D2 w (.int .i64 0) (.int .i64 0) v1 from ⟨(unhide HS).2.1, (unhide HS).2.2⟩) (by have := unhide HGL; omega) (.int .i64 n))
    go_upto_region 8 with fail
    generalize v1.setCell ⟨g, 0, none⟩ (.int .i64 n) = v2 at HG2 HD ⊢
    clear f0 f1 c0 c1 HG
    have HG := HG2
    clear HG2
    have d0 := (unhide HD).1.1
    have d1 := (unhide HD).1.2.1
    have e0 := (unhide HD).1.2.2 0
    have e1 := (unhide HD).1.2.2 1
    have a0 := (unhide HG).1
    have a1 := (unhide HG).2.1
    go_wp2
    exact bodyPost_ret (v := .agg #[.int .i64 n, .int .i64 z]) (by simp [results, Tryd.results7, go_sem, d0, d1]) rfl ⟨⟨n, z, rfl⟩, (((unhide HD).2.setCell (by first | exact Nat.le_refl _ | omega) _).setCell (by first | exact Nat.le_refl _ | omega) _)⟩
  have e0' : (r == 0) = false := by simpa using e0
  by_cases e1 : r = 1
  · have e1' : (r == 1) = true := by simpa using e1
    clear e1
    go_wp2_with fail
    refine (off_c _ _ _ _ _ _ (by unfold In; decide) (by unfold In; decide) (by decide) _ (unhide HS).1).mono ?_
    rintro e v1 ⟨n, rfl, hn, hl⟩
    have HG := hide ((unhide HG).kp hl.2 (by have := unhide HGL; omega))
    have HS := hide ((unhide HS).left hl)
    clear hl hn
    have f0 := (unhide HG).2.2 0
    have f1 := (unhide HG).2.2 1
    have c0 := (unhide HG).1
    have c1 := (unhide HG).2.1
    have HG2 := hide ((unhide HG).set1 (.int .i64 n))
    have HD := hide (D2.other (c := g) (o := 1) (show D2 w (.int .i64 0) (.int .i64 0) v1 from ⟨(unhide HS).2.1, (unhide HS).2.2⟩) (by have := unhide HGL; omega) (.int .i64 n))
    go_upto_region 8 with fail
    generalize v1.setCell ⟨g, 1, none⟩ (.int .i64 n) = v2 at HG2 HD ⊢
    clear f0 f1 c0 c1 HG
    have HG := HG2
    clear HG2
    have d0 := (unhide HD).1.1
    have d1 := (unhide HD).1.2.1
    have e0 := (unhide HD).1.2.2 0
    have e1 := (unhide HD).1.2.2 1
    have a0 := (unhide HG).1
    have a1 := (unhide HG).2.1
    go_wp2
    exact bodyPost_ret (v := .agg #[.int .i64 x, .int .i64 n]) (by simp [results, Tryd.results7, go_sem, d0, d1]) rfl ⟨⟨x, n, rfl⟩, (((unhide HD).2.setCell (by first | exact Nat.le_refl _ | omega) _).setCell (by first | exact Nat.le_refl _ | omega) _)⟩
  have e1' : (r == 1) = false := by simpa using e1
  have HD : Hid (D2 w (.int .i64 0) (.int .i64 0) u5) := ⟨(unhide HS).2.1, (unhide HS).2.2⟩
  clear e0 e1
  have d0 := (unhide HD).1.1
  have d1 := (unhide HD).1.2.1
  have e0 := (unhide HD).1.2.2 0
  have e1 := (unhide HD).1.2.2 1
  have a0 := (unhide HG).1
  have a1 := (unhide HG).2.1
  go_wp2
  exact bodyPost_ret (v := .agg #[.int .i64 x, .int .i64 z]) (by simp [results, Tryd.results7, go_sem, d0, d1]) rfl ⟨⟨x, z, rfl⟩, (((unhide HD).2.setCell (by first | exact Nat.le_refl _ | omega) _).setCell (by first | exact Nat.le_refl _ | omega) _)⟩
end Go.Proofs.YtghommnbnafmkaaDoor
