/-
  Chapter 10: the specification's copy of an acceptor.
-/
import Derived.Test.YtgjebjoaemeeoaaS10Copy
namespace Go.Proofs.Ytgjebjoaemeeoaa.kit
open Go.ChangeShapes Go.WideShapes Go.ChangeAt Go.RowKit
set_option linter.unusedVariables false
set_option linter.unusedSimpArgs false

theorem put6 {W : World} {base b : Nat} {v : Value} {l : List Int} {t : TypeId} {cs : Array Value} (hr : OwnI base W v l) (hb : BoxC W b t cs) (hte : t ≠ 3) (x0 x1 x2 x3 x4 x5 : Value) :
    OwnI base ((((((W.setCell ⟨b, 0, none⟩ x0).setCell ⟨b, 1, none⟩ x1).setCell ⟨b, 2, none⟩ x2).setCell ⟨b, 3, none⟩ x3).setCell ⟨b, 4, none⟩ x4).setCell ⟨b, 5, none⟩ x5) v l :=
  rowI_put (rowI_put (put4 hr hb hte x0 x1 x2 x3) ((((hb.put 0 x0).put 1 x1).put 2 x2).put 3 x3) hte 4 _) (((((hb.put 0 x0).put 1 x1).put 2 x2).put 3 x3).put 4 x4) hte 5 _
theorem below6 {B b : Nat} {w W : World} (h : Below B w W) (hb : B ≤ b) (x0 x1 x2 x3 x4 x5 : Value) :
    Below B w ((((((W.setCell ⟨b, 0, none⟩ x0).setCell ⟨b, 1, none⟩ x1).setCell ⟨b, 2, none⟩ x2).setCell ⟨b, 3, none⟩ x3).setCell ⟨b, 4, none⟩ x4).setCell ⟨b, 5, none⟩ x5) :=
  (((((h.setCell (p := ⟨b, 0, none⟩) hb x0).setCell (p := ⟨b, 1, none⟩) hb x1).setCell (p := ⟨b, 2, none⟩) hb x2).setCell (p := ⟨b, 3, none⟩) hb x3).setCell (p := ⟨b, 4, none⟩) hb x4).setCell (p := ⟨b, 5, none⟩) hb x5
def isAc (N : Nat) (x y s t : Int) (L1 L2 : List Int) : Value → World → Prop := fun v w => ∃ u1 u2, v = .agg #[.int .i64 x, .int .i64 y, .int .i64 s, .int .i64 t, u1, u2] ∧ OwnI N w u1 L1 ∧ OwnI N w u2 L2
theorem isAc_mono (N : Nat) (x y s t : Int) (L1 L2 : List Int) : Mono (isAc N x y s t L1 L2) := fun _ _ _ ⟨u1, u2, h, h1, h2⟩ hb => ⟨u1, u2, h, h1.later hb, h2.later hb⟩
set_option maxRecDepth 100000 in
set_option maxHeartbeats 4000000 in
theorem l10Copy (x y s t : Int) (b1 b2 : Nat) (v1 v2 : Value) (L1 L2 : List Int) (w : World) (hl1 : L1.length ≤ 4194304) (hl2 : L2.length ≤ 4194304) (o1 : OwnI b1 w v1 L1) (o2 : OwnI b2 w v2 L2) :
    Calls Try.prog 34 #[.agg #[.int .i64 x, .int .i64 y, .int .i64 s, .int .i64 t, v1, v2]] w fun e w' => ∃ u1 u2, e = .returned (.agg #[.int .i64 x, .int .i64 y, .int .i64 s, .int .i64 t, u1, u2]) ∧ OwnI w.heap.size w' u1 L1 ∧ OwnI w.heap.size w' u2 L2 ∧ Below w.heap.size w w' := by
  have HS1 := Lib.hid (src_own o1)
  have HS2 := Lib.hid (src_own o2)
  obtain ⟨y1, q1, rfl⟩ := o1.shape
  obtain ⟨y2, q2, rfl⟩ := o2.shape
  obtain ⟨wk, hwk⟩ : ∃ W, W = (w.alloc (.cells #[.int .i64 x, .int .i64 y, .int .i64 s, .int .i64 t, .slice y1 L1.length q1, .slice y2 L2.length q2] 28)).alloc (.cells #[.int .i64 0, .int .i64 0, .int .i64 0, .int .i64 0, .slice none 0 0, .slice none 0 0] 28) := ⟨_, rfl⟩
  have HA := Lib.hid (show Below w.heap.size w wk by rw [hwk]; exact ((Below.refl _ _).alloc (Nat.le_refl _) _).alloc (by simp) _)
  have HC := Lib.hid (show BoxC wk w.heap.size 28 #[.int .i64 x, .int .i64 y, .int .i64 s, .int .i64 t, .slice y1 L1.length q1, .slice y2 L2.length q2] by rw [hwk]; exact (BoxC.new _ _ _).later ((Below.refl _ _).alloc (Nat.le_refl _) _))
  have HR := Lib.hid (show BoxC wk (w.heap.size + 1) 28 #[.int .i64 0, .int .i64 0, .int .i64 0, .int .i64 0, .slice none 0 0, .slice none 0 0] by
    rw [hwk]
    have h := BoxC.new (w.alloc (.cells #[.int .i64 x, .int .i64 y, .int .i64 s, .int .i64 t, .slice y1 L1.length q1, .slice y2 L2.length q2] 28)) 28 #[.int .i64 0, .int .i64 0, .int .i64 0, .int .i64 0, .slice none 0 0, .slice none 0 0]
    rwa [World.size_alloc] at h)
  have HW0 := Lib.hid hwk
  clear o1 o2 hwk
  go_enter Try.func34, Try.ntmps34
  go_wp2_with fail
  rw [← HW0.out]
  clear HW0
  refine region_inv (m := 8) [3, 4, 5, 6, 7, 8, 9, 10] [] (Fs [isV (.pointer (some ⟨w.heap.size, 0, none⟩)), isV (.int .i64 x), isV (.pointer (some ⟨w.heap.size, 1, none⟩)), isV (.int .i64 y), isV (.pointer (some ⟨w.heap.size, 2, none⟩)), isV (.agg #[.int .i64 s, .int .i64 t, .slice y1 L1.length q1, .slice y2 L2.length q2]), isCf w.heap.size s t L1 L2, isAc w.heap.size x y s t L1 L2]) (by kernel_rfl) (by decide) rfl (by decide) (by kernel_rfl) (by kernel_rfl) (by kernel_rfl) (fun _ _ _ _ _ h => h) (Fs_mono ⟨isV_mono _, isV_mono _, isV_mono _, isV_mono _, isV_mono _, isV_mono _, isCf_mono _ _ _ _ _, isAc_mono _ _ _ _ _ _ _, trivial⟩) ?step ?float ?tail
  case float =>
    intro f hf
    cases hf
  case step =>
    intro i hi vs wq hBq hd
    rcases (show i = 0 ∨ i = 1 ∨ i = 2 ∨ i = 3 ∨ i = 4 ∨ i = 5 ∨ i = 6 ∨ i = 7 from by omega) with rfl | rfl | rfl | rfl | rfl | rfl | rfl | rfl
    · refine wpOp_step (o := _) rfl (fun K' hK => ?_)
      have HK := Lib.hid hK
      clear hK
      simp only [lay, Act.put, List.setIfInBounds_toArray, List.set_cons_zero, List.set_cons_succ, List.getD_cons_zero, List.getD_cons_succ, id_eq]
      go_simp
      refine HK.out _ _ ⟨_, ?_, Below.refl _ _, rfl⟩
      simp only [lay, Act.put, List.setIfInBounds_toArray, List.set_cons_zero, List.set_cons_succ, List.getD_cons_zero, List.getD_cons_succ, id_eq]
    · have e0' : vs 0 = .pointer (some ⟨w.heap.size, 0, none⟩) := hd 0 (List.contains_iff_mem.1 (by kernel_rfl))
      have kc := (HC.out.later hBq).c 0 rfl
      refine wpOp_step (o := _) rfl (fun K' hK => ?_)
      have HK := Lib.hid hK
      clear hK
      simp only [lay, Act.put, List.setIfInBounds_toArray, List.set_cons_zero, List.set_cons_succ, List.getD_cons_zero, List.getD_cons_succ, id_eq]
      rw [e0']
      go_simp
      refine HK.out _ _ ⟨_, ?_, Below.refl _ _, rfl⟩
      simp only [lay, Act.put, List.setIfInBounds_toArray, List.set_cons_zero, List.set_cons_succ, List.getD_cons_zero, List.getD_cons_succ, id_eq]
      rw [e0']
    · refine wpOp_step (o := _) rfl (fun K' hK => ?_)
      have HK := Lib.hid hK
      clear hK
      simp only [lay, Act.put, List.setIfInBounds_toArray, List.set_cons_zero, List.set_cons_succ, List.getD_cons_zero, List.getD_cons_succ, id_eq]
      go_simp
      refine HK.out _ _ ⟨_, ?_, Below.refl _ _, rfl⟩
      simp only [lay, Act.put, List.setIfInBounds_toArray, List.set_cons_zero, List.set_cons_succ, List.getD_cons_zero, List.getD_cons_succ, id_eq]
    · have e2' : vs 2 = .pointer (some ⟨w.heap.size, 1, none⟩) := hd 2 (List.contains_iff_mem.1 (by kernel_rfl))
      have kc := (HC.out.later hBq).c 1 rfl
      refine wpOp_step (o := _) rfl (fun K' hK => ?_)
      have HK := Lib.hid hK
      clear hK
      simp only [lay, Act.put, List.setIfInBounds_toArray, List.set_cons_zero, List.set_cons_succ, List.getD_cons_zero, List.getD_cons_succ, id_eq]
      rw [e2']
      go_simp
      refine HK.out _ _ ⟨_, ?_, Below.refl _ _, rfl⟩
      simp only [lay, Act.put, List.setIfInBounds_toArray, List.set_cons_zero, List.set_cons_succ, List.getD_cons_zero, List.getD_cons_succ, id_eq]
      rw [e2']
    · refine wpOp_step (o := _) rfl (fun K' hK => ?_)
      have HK := Lib.hid hK
      clear hK
      simp only [lay, Act.put, List.setIfInBounds_toArray, List.set_cons_zero, List.set_cons_succ, List.getD_cons_zero, List.getD_cons_succ, id_eq]
      go_simp
      refine HK.out _ _ ⟨_, ?_, Below.refl _ _, rfl⟩
      simp only [lay, Act.put, List.setIfInBounds_toArray, List.set_cons_zero, List.set_cons_succ, List.getD_cons_zero, List.getD_cons_succ, id_eq]
    · have e4' : vs 4 = .pointer (some ⟨w.heap.size, 2, none⟩) := hd 4 (List.contains_iff_mem.1 (by kernel_rfl))
      have kc2 := (HC.out.later hBq).c 2 rfl
      have kc3 := (HC.out.later hBq).c 3 rfl
      have kc4 := (HC.out.later hBq).c 4 rfl
      have kc5 := (HC.out.later hBq).c 5 rfl
      refine wpOp_step (o := _) rfl (fun K' hK => ?_)
      have HK := Lib.hid hK
      clear hK
      simp only [lay, Act.put, List.setIfInBounds_toArray, List.set_cons_zero, List.set_cons_succ, List.getD_cons_zero, List.getD_cons_succ, id_eq]
      rw [e4']
      go_simp
      refine HK.out _ _ ⟨_, ?_, Below.refl _ _, rfl⟩
      simp only [lay, Act.put, List.setIfInBounds_toArray, List.set_cons_zero, List.set_cons_succ, List.getD_cons_zero, List.getD_cons_succ, id_eq]
      rw [e4']
    · have e5' : vs 5 = .agg #[.int .i64 s, .int .i64 t, .slice y1 L1.length q1, .slice y2 L2.length q2] := hd 5 (List.contains_iff_mem.1 (by kernel_rfl))
      refine wpOp_step (o := _) rfl (fun K' hK => ?_)
      have HK := Lib.hid hK
      clear hK
      simp only [lay, Act.put, List.setIfInBounds_toArray, List.set_cons_zero, List.set_cons_succ, List.getD_cons_zero, List.getD_cons_succ, id_eq]
      rw [e5']
      go_simp
      go_at_call 39
      refine (l8CopyS s t _ _ L1 L2 wq hl1 hl2 (src_later HS1.out (Nat.le_refl _) (HA.out.trans (hBq.mono HA.out.size))) (src_later HS2.out (Nat.le_refl _) (HA.out.trans (hBq.mono HA.out.size)))).mono ?_
      rintro e w2 ⟨x1, x2, rfl, h1, h2, hb⟩
      refine HK.out _ _ ⟨_, ?_, hb, ⟨_, _, rfl, h1.mono (Nat.le_trans HA.out.size hBq.size), h2.mono (Nat.le_trans HA.out.size hBq.size)⟩⟩
      simp only [lay, Act.put, List.setIfInBounds_toArray, List.set_cons_zero, List.set_cons_succ, List.getD_cons_zero, List.getD_cons_succ, id_eq]
      rw [e5']
    · have e1' : vs 1 = .int .i64 x := hd 1 (List.contains_iff_mem.1 (by kernel_rfl))
      have e3' : vs 3 = .int .i64 y := hd 3 (List.contains_iff_mem.1 (by kernel_rfl))
      have hz : isCf w.heap.size s t L1 L2 (vs 6) wq := hd 6 (List.contains_iff_mem.1 (by kernel_rfl))
      cases hz with | intro u1 hz =>
      cases hz with | intro u2 hz =>
      have ez := hz.1
      have h1 := hz.2.1
      have h2 := hz.2.2
      have hs1 := OwnI.shape h1
      cases hs1 with | intro ya hs1 =>
      cases hs1 with | intro qa ea =>
      have hs2 := OwnI.shape h2
      cases hs2 with | intro yb hs2 =>
      cases hs2 with | intro qb eb =>
      rw [ea] at h1
      rw [eb] at h2
      rw [ea, eb] at ez
      refine wpOp_step (o := _) rfl (fun K' hK => ?_)
      have HK := Lib.hid hK
      clear hK
      simp only [lay, Act.put, List.setIfInBounds_toArray, List.set_cons_zero, List.set_cons_succ, List.getD_cons_zero, List.getD_cons_succ, id_eq]
      rw [e1', e3', ez]
      go_simp
      refine HK.out _ _ ⟨_, ?_, Below.refl _ _, ⟨_, _, rfl, h1, h2⟩⟩
      simp only [lay, Act.put, List.setIfInBounds_toArray, List.set_cons_zero, List.set_cons_succ, List.getD_cons_zero, List.getD_cons_succ, id_eq]
      rw [e1', e3', ez]
  case tail =>
    intro vs wq hBq hf
    simp only [lay, Act.put, List.setIfInBounds_toArray, List.set_cons_zero, List.set_cons_succ, List.getD_cons_zero, List.getD_cons_succ, id_eq]
    obtain ⟨u1, u2, eb, h1, h2⟩ : isAc w.heap.size x y s t L1 L2 (vs 7) wq := hf 7 (by decide)
    obtain ⟨ya, qa, rfl⟩ := h1.shape
    obtain ⟨yb, qb, rfl⟩ := h2.shape
    rw [eb]
    refine any_all (rs := [8]) (by kernel_rfl) (by simp) ?_
    intro i hi
    simp only [List.mem_cons, List.not_mem_nil, or_false] at hi
    subst hi
    refine wpOp_step (o := _) rfl (fun K' hK => ?_)
    have HK := Lib.hid hK
    clear hK
    have HR' := HR.out.later hBq
    have k0 := HR'.c 0 rfl
    have k1 := HR'.c 1 rfl
    have k2 := HR'.c 2 rfl
    have k3 := HR'.c 3 rfl
    have k4 := HR'.c 4 rfl
    have k5 := HR'.c 5 rfl
    have kf0 := HR'.f 0
    have kf1 := HR'.f 1
    have kf2 := HR'.f 2
    have kf3 := HR'.f 3
    have kf4 := HR'.f 4
    have kf5 := HR'.f 5
    go_simp
    refine HK.out _ _ ?_
    clear HK K'
    try simp only [Act.put, List.setIfInBounds_toArray, List.set_cons_zero, List.set_cons_succ]
    refine any_done (by kernel_rfl) ?_ _
    clear hf
    have HW := Lib.hid (HA.out.trans (hBq.mono HA.out.size))
    clear hBq
    go_wp2_with fail
    refine bodyPost_ret (v := .agg #[.int .i64 x, .int .i64 y, .int .i64 s, .int .i64 t, .slice ya L1.length qa, .slice yb L2.length qb]) (by simp [results, Try.results34, go_sem, k0, k1, k2, k3, k4, k5]) rfl ⟨_, _, rfl, ?_, ?_, ?_⟩
    · exact put6 h1 HR' (by decide) _ _ _ _ _ _
    · exact put6 h2 HR' (by decide) _ _ _ _ _ _
    · exact below6 HW.out (Nat.le_succ _) _ _ _ _ _ _
end Go.Proofs.Ytgjebjoaemeeoaa.kit
