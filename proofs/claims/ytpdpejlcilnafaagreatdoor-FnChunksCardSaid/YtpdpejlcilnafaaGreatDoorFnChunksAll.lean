/-
  The law of chunks: a spoilt text, the walk, the law (merged text).
-/
import Derived.Test.YtpdpejlcilnafaaGreatDoorSnpE
import Derived.Deep.DeepCutAuto
import Derived.Test.YtpdpejlcilnafaaGreatDoorBig
import Derived.Deep.RegionWith
import Derived.Test.YtpdpejlcilnafaaGreatDoorCards
import Derived.Test.YtpdpejlcilnafaaGreatDoorTie
namespace Go.Proofs.YtpdpejlcilnafaaGreatDoor.kit
open Go.ChangeShapes Go.WideShapes Go.ChangeAt Go.RowKit
set_option linter.unusedVariables false
set_option linter.unusedSimpArgs false

def isStr (n : Nat) : Value → World → Prop := fun v _ => ∃ t : ByteArray, v = .string t ∧ t.size ≤ n
theorem isStr_monoR (R : World → World → Prop) (n : Nat) : MonoR R (isStr n) := fun _ _ _ h _ => h
def isU8 : Value → World → Prop := fun v _ => ∃ y : Int, v = .int .u8 y
theorem isU8_monoR (R : World → World → Prop) : MonoR R isU8 := fun _ _ _ h _ => h
def isAny : Value → World → Prop := fun v _ => ∃ y : Int, v = .int .i64 y
theorem isAny_monoR (R : World → World → Prop) : MonoR R isAny := fun _ _ _ h _ => h
def isB1 (g : Nat) : Value → World → Prop := fun v w => ∃ (b : Nat) (y : Int), v = .slice (some ⟨b, 0, none⟩) 1 1 ∧ w.heap[b]? = some (.cells #[.int .u8 y] 5 (0, 0)) ∧ b ≠ g
theorem isB1_monoR (g : Nat) : MonoR (Drew g) (isB1 g) := fun _ _ _ ⟨b, y, h, h1, h2⟩ hd => ⟨b, y, h, (hd.1.block b (Array.getElem?_eq_some_iff.1 h1).1 (fun e => h2 (Option.some.inj e))).trans h1, h2⟩
theorem mk_sizeB (l : List UInt8) : (⟨l.toArray⟩ : ByteArray).size = l.length := by simp [ByteArray.size]
theorem convB {w : World} {b : Nat} {y : Int} (h : w.heap[b]? = some (.cells #[.int .u8 y] 5 (0, 0))) :
    (convert 22 9 (.slice (some ⟨b, 0, none⟩) 1 1)).run Tryz.prog w = .ok (.string ⟨[UInt8.ofNat y.toNat].toArray⟩) w := by
  have h := run_convert_bytes_arg (P := Tryz.prog) w 22 5 Tryz.underlying22 Tryz.underlying5 b 0 1 1 [y] rfl (fun i hi => by
    obtain rfl : i = 0 := by omega
    simp [World.cell?, h]) 9 Tryz.underlying9
  rw [h]; rfl
set_option maxRecDepth 100000 in
set_option maxHeartbeats 8000000 in
theorem spoil_any (g : Nat) (s : ByteArray) (w : World) (hs : s.size ≤ 1048576) (hc : Cur g w) : Calls Tryz.prog 58 #[.pointer (some ⟨g, 0, none⟩), .string s] w fun e w' => ∃ t : ByteArray, e = .returned (.string t) ∧ t.size ≤ 2 * s.size + 3 ∧ Drew g w w' := by
  by_cases h0 : s.size = 0
  · have C1 := Lib.hid (text_any g 3 w (by decide) hc)
    have t0 : ((s.size : Int) == 0) = true := by rw [h0]; rfl
    have t1 : (s.size == 0) = true := by rw [h0]; rfl
    clear h0
    go_enter Tryz.func58, Tryz.ntmps58
    go_wp2_with fail
    refine (C1.out).mono ?_
    rintro e w1 ⟨l, rfl, hl, hd⟩
    go_wp2_with fail
    go_ret
    exact ⟨_, rfl, by rw [mk_sizeB]; omega, hd⟩
  · have C1 := Lib.hid (below_pos g (s.size : Int) w (by omega) (by omega) hc)
    have t0 : ((s.size : Int) == 0) = false := by rw [beq_eq_false_iff_ne]; omega
    have t1 : (s.size == 0) = false := by rw [beq_eq_false_iff_ne]; omega
    clear h0
    go_enter Tryz.func58, Tryz.ntmps58
    go_wp2_with fail
    refine (C1.out).mono ?_
    rintro e w1 ⟨k, rfl, hk0, hk1, hd1⟩
    obtain ⟨k, rfl⟩ := Int.eq_ofNat_of_zero_le hk0
    have C2 := Lib.hid (below_small g 4 w1 (by decide) (by decide) hd1.2)
    clear C1
    go_wp2_with fail
    refine (C2.out).mono ?_
    rintro e w4 ⟨q, rfl, hq0, hq1, hd2⟩
    have HD := Lib.hid (hd1.trans hd2)
    have HREFL := Lib.hid (show Drew g w4 w4.drew from ⟨grown_drewN (grown_refl w4 (some g)) 1, Cur.below hd2.2 ((Below.refl w4.heap.size w4).drew) hd2.2.lt⟩)
    have hks : k < s.size := by omega
    have k1 : (k : Int) ≤ (s.size : Int) := by omega
    have k2 : (k : Int) < (s.size : Int) := by omega
    have k3 : k ≤ s.size := by omega
    have k4 : (k : Int) + 1 ≤ (s.size : Int) := by omega
    have k5 : k + 1 ≤ s.size := by omega
    have hw : IntKind.i64.wrap ((k : Int) + 1) = (k : Int) + 1 := IntWalk.i64_in _ (by omega)
    clear hd1 hd2 C2
    have hq : q = 0 ∨ q = 1 ∨ q = 2 ∨ q = 3 := by omega
    rcases hq with rfl | rfl | rfl | rfl
    · go_upto_region 6 with (fail)
      have hno : ∀ a b : ByteArray, a.size ≤ s.size → b.size ≤ s.size → ¬ (9223372036854775807 < a.size + b.size) := fun a b h1 h2 => by omega
      go_region
      go_wp2_with fail
      go_ret
      exact ⟨_, rfl, by rw [ByteArray.size_append, ByteArray.size_extract, ByteArray.size_extract]; omega, HD.out.trans HREFL.out⟩
    · go_upto_region 8 with (fail)
      refine region_reachR (m := 13) (Drew g) HREFL.out (fun _ _ _ h k => Drew.trans h k) [29, 30, 31, 32, 33, 34, 35, 36, 37, 38, 39, 40, 41] (Fs [isV (.string s), isV (.int .i64 (k : Int)), isStr (s.size), isV (.pointer (some ⟨g, 0, none⟩)), isJ 0 512, isU8, isB1 g, isStr (1), isStr ((s.size) + (1)), isV (.string s), isV (.int .i64 (k : Int)), isStr (s.size), isStr (((s.size) + (1)) + (s.size))]) (by kernel_rfl) (by decide) rfl (by decide) (by kernel_rfl) (by kernel_rfl) (fun _ _ _ _ _ h => h) (Fs_monoR ⟨isV_monoR _ _, isV_monoR _ _, isStr_monoR _ _, isV_monoR _ _, isJ_monoR _ _ _, isU8_monoR _, isB1_monoR g, isStr_monoR _ _, isStr_monoR _ _, isV_monoR _ _, isV_monoR _ _, isStr_monoR _ _, isStr_monoR _ _, trivial⟩) ?step ?tail
      case step =>
        intro i hi vs wq hBq hd
        by_cases h12 : i = 12
        · subst h12
          have hl8 : isStr ((s.size) + (1)) (vs 8) wq := hd 8 (List.contains_iff_mem.1 (by kernel_rfl))
          cases hl8 with | intro x8 hl8 =>
          have e8' := hl8.1
          have b8 := hl8.2
          have hl11 : isStr (s.size) (vs 11) wq := hd 11 (List.contains_iff_mem.1 (by kernel_rfl))
          cases hl11 with | intro x11 hl11 =>
          have e11' := hl11.1
          have b11 := hl11.2
          have hno : ¬ (9223372036854775807 < x8.size + x11.size) := by omega
          refine wpOp_step (o := _) rfl (fun K' hK => ?_)
          have HK := Lib.hid hK
          clear hK
          simp only [lay, Act.put, List.setIfInBounds_toArray, List.set_cons_zero, List.set_cons_succ, List.getD_cons_zero, List.getD_cons_succ, id_eq]
          rw [e8', e11']
          go_simp
          refine HK.out _ _ ⟨_, ?_, Drew.refl hBq.2, ⟨x8 ++ x11, rfl, by rw [ByteArray.size_append]; omega⟩⟩
          simp only [lay, Act.put, List.setIfInBounds_toArray, List.set_cons_zero, List.set_cons_succ, List.getD_cons_zero, List.getD_cons_succ, id_eq]
          rw [e8', e11']
        replace hi : i < 12 := by omega
        clear h12
        by_cases h11 : i = 11
        · subst h11
          have e9' : vs 9 = .string s := hd 9 (List.contains_iff_mem.1 (by kernel_rfl))
          have e10' : vs 10 = .int .i64 (k : Int) := hd 10 (List.contains_iff_mem.1 (by kernel_rfl))
          refine wpOp_step (o := _) rfl (fun K' hK => ?_)
          have HK := Lib.hid hK
          clear hK
          simp only [lay, Act.put, List.setIfInBounds_toArray, List.set_cons_zero, List.set_cons_succ, List.getD_cons_zero, List.getD_cons_succ, id_eq]
          rw [e9', e10']
          go_simp
          refine HK.out _ _ ⟨_, ?_, Drew.refl hBq.2, ⟨s.extract k s.size, rfl, by rw [ByteArray.size_extract]; omega⟩⟩
          simp only [lay, Act.put, List.setIfInBounds_toArray, List.set_cons_zero, List.set_cons_succ, List.getD_cons_zero, List.getD_cons_succ, id_eq]
          rw [e9', e10']
        replace hi : i < 11 := by omega
        clear h11
        by_cases h10 : i = 10
        · subst h10
          refine wpOp_step (o := _) rfl (fun K' hK => ?_)
          have HK := Lib.hid hK
          clear hK
          simp only [lay, Act.put, List.setIfInBounds_toArray, List.set_cons_zero, List.set_cons_succ, List.getD_cons_zero, List.getD_cons_succ, id_eq]
          go_simp
          refine HK.out _ _ ⟨_, ?_, Drew.refl hBq.2, rfl⟩
          simp only [lay, Act.put, List.setIfInBounds_toArray, List.set_cons_zero, List.set_cons_succ, List.getD_cons_zero, List.getD_cons_succ, id_eq]
        replace hi : i < 10 := by omega
        clear h10
        by_cases h9 : i = 9
        · subst h9
          refine wpOp_step (o := _) rfl (fun K' hK => ?_)
          have HK := Lib.hid hK
          clear hK
          simp only [lay, Act.put, List.setIfInBounds_toArray, List.set_cons_zero, List.set_cons_succ, List.getD_cons_zero, List.getD_cons_succ, id_eq]
          go_simp
          refine HK.out _ _ ⟨_, ?_, Drew.refl hBq.2, rfl⟩
          simp only [lay, Act.put, List.setIfInBounds_toArray, List.set_cons_zero, List.set_cons_succ, List.getD_cons_zero, List.getD_cons_succ, id_eq]
        replace hi : i < 9 := by omega
        clear h9
        by_cases h8 : i = 8
        · subst h8
          have hl2 : isStr (s.size) (vs 2) wq := hd 2 (List.contains_iff_mem.1 (by kernel_rfl))
          cases hl2 with | intro x2 hl2 =>
          have e2' := hl2.1
          have b2 := hl2.2
          have hl7 : isStr (1) (vs 7) wq := hd 7 (List.contains_iff_mem.1 (by kernel_rfl))
          cases hl7 with | intro x7 hl7 =>
          have e7' := hl7.1
          have b7 := hl7.2
          have hno : ¬ (9223372036854775807 < x2.size + x7.size) := by omega
          refine wpOp_step (o := _) rfl (fun K' hK => ?_)
          have HK := Lib.hid hK
          clear hK
          simp only [lay, Act.put, List.setIfInBounds_toArray, List.set_cons_zero, List.set_cons_succ, List.getD_cons_zero, List.getD_cons_succ, id_eq]
          rw [e2', e7']
          go_simp
          refine HK.out _ _ ⟨_, ?_, Drew.refl hBq.2, ⟨x2 ++ x7, rfl, by rw [ByteArray.size_append]; omega⟩⟩
          simp only [lay, Act.put, List.setIfInBounds_toArray, List.set_cons_zero, List.set_cons_succ, List.getD_cons_zero, List.getD_cons_succ, id_eq]
          rw [e2', e7']
        replace hi : i < 8 := by omega
        clear h8
        by_cases h7 : i = 7
        · subst h7
          have hl6 : isB1 g (vs 6) wq := hd 6 (List.contains_iff_mem.1 (by kernel_rfl))
          cases hl6 with | intro bb hl6 =>
          cases hl6 with | intro y hl6 =>
          have e6' := hl6.1
          have hh := hl6.2.1
          have hcv := convB hh
          refine wpOp_step (o := _) rfl (fun K' hK => ?_)
          have HK := Lib.hid hK
          clear hK
          simp only [lay, Act.put, List.setIfInBounds_toArray, List.set_cons_zero, List.set_cons_succ, List.getD_cons_zero, List.getD_cons_succ, id_eq]
          rw [e6']
          go_simp
          refine HK.out _ _ ⟨_, ?_, Drew.refl hBq.2, ⟨⟨[UInt8.ofNat y.toNat].toArray⟩, rfl, by rw [mk_sizeB]; exact Nat.le_refl _⟩⟩
          simp only [lay, Act.put, List.setIfInBounds_toArray, List.set_cons_zero, List.set_cons_succ, List.getD_cons_zero, List.getD_cons_succ, id_eq]
          rw [e6']
        replace hi : i < 7 := by omega
        clear h7
        by_cases h6 : i = 6
        · subst h6
          have hl5 : isU8 (vs 5) wq := hd 5 (List.contains_iff_mem.1 (by kernel_rfl))
          cases hl5 with | intro y hl5 =>
          have e5' := hl5
          refine wpOp_step (o := _) rfl (fun K' hK => ?_)
          have HK := Lib.hid hK
          clear hK
          simp only [lay, Act.put, List.setIfInBounds_toArray, List.set_cons_zero, List.set_cons_succ, List.getD_cons_zero, List.getD_cons_succ, id_eq]
          rw [e5']
          go_simp
          refine HK.out _ _ ⟨_, ?_, (Drew.refl hBq.2).alloc _, ⟨_, _, rfl, heap_alloc_new _ _, Nat.ne_of_gt hBq.2.lt⟩⟩
          simp only [lay, Act.put, List.setIfInBounds_toArray, List.set_cons_zero, List.set_cons_succ, List.getD_cons_zero, List.getD_cons_succ, id_eq]
          rw [e5']
        replace hi : i < 6 := by omega
        clear h6
        by_cases h5 : i = 5
        · subst h5
          have hl4 : isJ 0 512 (vs 4) wq := hd 4 (List.contains_iff_mem.1 (by kernel_rfl))
          cases hl4 with | intro y hl4 =>
          have e4' := hl4.1
          have j0 := hl4.2.1
          have j1 := hl4.2.2
          refine wpOp_step (o := _) rfl (fun K' hK => ?_)
          have HK := Lib.hid hK
          clear hK
          simp only [lay, Act.put, List.setIfInBounds_toArray, List.set_cons_zero, List.set_cons_succ, List.getD_cons_zero, List.getD_cons_succ, id_eq]
          rw [e4']
          go_simp
          refine HK.out _ _ ⟨_, ?_, Drew.refl hBq.2, ⟨IntKind.u8.wrap y, rfl⟩⟩
          simp only [lay, Act.put, List.setIfInBounds_toArray, List.set_cons_zero, List.set_cons_succ, List.getD_cons_zero, List.getD_cons_succ, id_eq]
          rw [e4']
        replace hi : i < 5 := by omega
        clear h5
        by_cases h4 : i = 4
        · subst h4
          have e3' : vs 3 = .pointer (some ⟨g, 0, none⟩) := hd 3 (List.contains_iff_mem.1 (by kernel_rfl))
          refine wpOp_step (o := _) rfl (fun K' hK => ?_)
          have HK := Lib.hid hK
          clear hK
          simp only [lay, Act.put, List.setIfInBounds_toArray, List.set_cons_zero, List.set_cons_succ, List.getD_cons_zero, List.getD_cons_succ, id_eq]
          rw [e3']
          go_simp
          go_at_call 65
          refine (byte_any g wq hBq.2).mono ?_
          rintro e w2 ⟨y, rfl, hy0, hy1, hd⟩
          refine HK.out _ _ ⟨_, ?_, hd, ⟨y, rfl, hy0, by omega⟩⟩
          simp only [lay, Act.put, List.setIfInBounds_toArray, List.set_cons_zero, List.set_cons_succ, List.getD_cons_zero, List.getD_cons_succ, id_eq]
          rw [e3']
        replace hi : i < 4 := by omega
        clear h4
        by_cases h3 : i = 3
        · subst h3
          refine wpOp_step (o := _) rfl (fun K' hK => ?_)
          have HK := Lib.hid hK
          clear hK
          simp only [lay, Act.put, List.setIfInBounds_toArray, List.set_cons_zero, List.set_cons_succ, List.getD_cons_zero, List.getD_cons_succ, id_eq]
          go_simp
          refine HK.out _ _ ⟨_, ?_, Drew.refl hBq.2, rfl⟩
          simp only [lay, Act.put, List.setIfInBounds_toArray, List.set_cons_zero, List.set_cons_succ, List.getD_cons_zero, List.getD_cons_succ, id_eq]
        replace hi : i < 3 := by omega
        clear h3
        by_cases h2 : i = 2
        · subst h2
          have e0' : vs 0 = .string s := hd 0 (List.contains_iff_mem.1 (by kernel_rfl))
          have e1' : vs 1 = .int .i64 (k : Int) := hd 1 (List.contains_iff_mem.1 (by kernel_rfl))
          refine wpOp_step (o := _) rfl (fun K' hK => ?_)
          have HK := Lib.hid hK
          clear hK
          simp only [lay, Act.put, List.setIfInBounds_toArray, List.set_cons_zero, List.set_cons_succ, List.getD_cons_zero, List.getD_cons_succ, id_eq]
          rw [e0', e1']
          go_simp
          refine HK.out _ _ ⟨_, ?_, Drew.refl hBq.2, ⟨s.extract 0 k, rfl, by rw [ByteArray.size_extract]; omega⟩⟩
          simp only [lay, Act.put, List.setIfInBounds_toArray, List.set_cons_zero, List.set_cons_succ, List.getD_cons_zero, List.getD_cons_succ, id_eq]
          rw [e0', e1']
        replace hi : i < 2 := by omega
        clear h2
        by_cases h1 : i = 1
        · subst h1
          refine wpOp_step (o := _) rfl (fun K' hK => ?_)
          have HK := Lib.hid hK
          clear hK
          simp only [lay, Act.put, List.setIfInBounds_toArray, List.set_cons_zero, List.set_cons_succ, List.getD_cons_zero, List.getD_cons_succ, id_eq]
          go_simp
          refine HK.out _ _ ⟨_, ?_, Drew.refl hBq.2, rfl⟩
          simp only [lay, Act.put, List.setIfInBounds_toArray, List.set_cons_zero, List.set_cons_succ, List.getD_cons_zero, List.getD_cons_succ, id_eq]
        replace hi : i < 1 := by omega
        clear h1
        by_cases h0 : i = 0
        · subst h0
          refine wpOp_step (o := _) rfl (fun K' hK => ?_)
          have HK := Lib.hid hK
          clear hK
          simp only [lay, Act.put, List.setIfInBounds_toArray, List.set_cons_zero, List.set_cons_succ, List.getD_cons_zero, List.getD_cons_succ, id_eq]
          go_simp
          refine HK.out _ _ ⟨_, ?_, Drew.refl hBq.2, rfl⟩
          simp only [lay, Act.put, List.setIfInBounds_toArray, List.set_cons_zero, List.set_cons_succ, List.getD_cons_zero, List.getD_cons_succ, id_eq]
        replace hi : i < 0 := by omega
        clear h0
        exact absurd hi (Nat.not_lt_zero _)
      case tail =>
        intro vs wq hBq hf
        simp only [lay, Act.put, List.setIfInBounds_toArray, List.set_cons_zero, List.set_cons_succ, List.getD_cons_zero, List.getD_cons_succ, id_eq]
        have hx : isStr (((s.size) + (1)) + (s.size)) (vs 12) wq := hf 12 (by decide)
        cases hx with | intro z hx =>
        have ez := hx.1
        have bz := hx.2
        clear hx
        rw [ez]
        clear ez
        refine any_all (rs := [13]) (by kernel_rfl) (by simp) ?_
        intro i hi
        simp only [List.mem_cons, List.not_mem_nil, or_false] at hi
        subst hi
        refine wpOp_step (o := _) rfl (fun K' hK => ?_)
        have HK := Lib.hid hK
        clear hK
        go_simp
        refine HK.out _ _ ?_
        clear HK K'
        try simp only [Act.put, List.setIfInBounds_toArray, List.set_cons_zero, List.set_cons_succ]
        refine any_done (by kernel_rfl) ?_ _
        replace HD := Lib.hid (HD.out.trans hBq)
        clear hBq
        go_wp2_with fail
        go_ret
        exact ⟨_, rfl, by omega, HD.out⟩
    · go_wp2_with fail
      go_ret
      exact ⟨_, rfl, by first | (rw [ByteArray.size_extract]; omega) | (show (s.data.extract 0 k).size ≤ _; rw [Array.size_extract]; have : s.data.size = s.size := rfl; omega) | trace_state, HD.out⟩
    · go_upto_region 11 with (fail)
      refine region_reachR (m := 20) (Drew g) HREFL.out (fun _ _ _ h k => Drew.trans h k) [47, 48, 49, 50, 51, 52, 53, 54, 55, 56, 57, 58, 59, 60, 61, 62, 63, 64, 65, 66] (Fs [isV (.string s), isV (.int .i64 (k : Int)), isStr (s.size), isV (.string s), isV (.int .i64 (k : Int)), isU8, isAny, isV (.pointer (some ⟨g, 0, none⟩)), isJ 0 255, isAny, isAny, isU8, isB1 g, isStr (1), isStr ((s.size) + (1)), isV (.string s), isV (.int .i64 (k : Int)), isV (.int .i64 ((k : Int) + 1)), isStr (s.size), isStr (((s.size) + (1)) + (s.size))]) (by kernel_rfl) (by decide) rfl (by decide) (by kernel_rfl) (by kernel_rfl) (fun _ _ _ _ _ h => h) (Fs_monoR ⟨isV_monoR _ _, isV_monoR _ _, isStr_monoR _ _, isV_monoR _ _, isV_monoR _ _, isU8_monoR _, isAny_monoR _, isV_monoR _ _, isJ_monoR _ _ _, isAny_monoR _, isAny_monoR _, isU8_monoR _, isB1_monoR g, isStr_monoR _ _, isStr_monoR _ _, isV_monoR _ _, isV_monoR _ _, isV_monoR _ _, isStr_monoR _ _, isStr_monoR _ _, trivial⟩) ?step ?tail
      case step =>
        intro i hi vs wq hBq hd
        by_cases h19 : i = 19
        · subst h19
          have hl14 : isStr ((s.size) + (1)) (vs 14) wq := hd 14 (List.contains_iff_mem.1 (by kernel_rfl))
          cases hl14 with | intro x14 hl14 =>
          have e14' := hl14.1
          have b14 := hl14.2
          have hl18 : isStr (s.size) (vs 18) wq := hd 18 (List.contains_iff_mem.1 (by kernel_rfl))
          cases hl18 with | intro x18 hl18 =>
          have e18' := hl18.1
          have b18 := hl18.2
          have hno : ¬ (9223372036854775807 < x14.size + x18.size) := by omega
          refine wpOp_step (o := _) rfl (fun K' hK => ?_)
          have HK := Lib.hid hK
          clear hK
          simp only [lay, Act.put, List.setIfInBounds_toArray, List.set_cons_zero, List.set_cons_succ, List.getD_cons_zero, List.getD_cons_succ, id_eq]
          rw [e14', e18']
          go_simp
          refine HK.out _ _ ⟨_, ?_, Drew.refl hBq.2, ⟨x14 ++ x18, rfl, by rw [ByteArray.size_append]; omega⟩⟩
          simp only [lay, Act.put, List.setIfInBounds_toArray, List.set_cons_zero, List.set_cons_succ, List.getD_cons_zero, List.getD_cons_succ, id_eq]
          rw [e14', e18']
        replace hi : i < 19 := by omega
        clear h19
        by_cases h18 : i = 18
        · subst h18
          have e15' : vs 15 = .string s := hd 15 (List.contains_iff_mem.1 (by kernel_rfl))
          have e17' : vs 17 = .int .i64 ((k : Int) + 1) := hd 17 (List.contains_iff_mem.1 (by kernel_rfl))
          refine wpOp_step (o := _) rfl (fun K' hK => ?_)
          have HK := Lib.hid hK
          clear hK
          simp only [lay, Act.put, List.setIfInBounds_toArray, List.set_cons_zero, List.set_cons_succ, List.getD_cons_zero, List.getD_cons_succ, id_eq]
          rw [e15', e17']
          go_simp
          refine HK.out _ _ ⟨_, ?_, Drew.refl hBq.2, ⟨s.extract (k + 1) s.size, rfl, by rw [ByteArray.size_extract]; omega⟩⟩
          simp only [lay, Act.put, List.setIfInBounds_toArray, List.set_cons_zero, List.set_cons_succ, List.getD_cons_zero, List.getD_cons_succ, id_eq]
          rw [e15', e17']
        replace hi : i < 18 := by omega
        clear h18
        by_cases h17 : i = 17
        · subst h17
          have e16' : vs 16 = .int .i64 (k : Int) := hd 16 (List.contains_iff_mem.1 (by kernel_rfl))
          refine wpOp_step (o := _) rfl (fun K' hK => ?_)
          have HK := Lib.hid hK
          clear hK
          simp only [lay, Act.put, List.setIfInBounds_toArray, List.set_cons_zero, List.set_cons_succ, List.getD_cons_zero, List.getD_cons_succ, id_eq]
          rw [e16']
          go_simp
          refine HK.out _ _ ⟨_, ?_, Drew.refl hBq.2, rfl⟩
          simp only [lay, Act.put, List.setIfInBounds_toArray, List.set_cons_zero, List.set_cons_succ, List.getD_cons_zero, List.getD_cons_succ, id_eq]
          rw [e16']
        replace hi : i < 17 := by omega
        clear h17
        by_cases h16 : i = 16
        · subst h16
          refine wpOp_step (o := _) rfl (fun K' hK => ?_)
          have HK := Lib.hid hK
          clear hK
          simp only [lay, Act.put, List.setIfInBounds_toArray, List.set_cons_zero, List.set_cons_succ, List.getD_cons_zero, List.getD_cons_succ, id_eq]
          go_simp
          refine HK.out _ _ ⟨_, ?_, Drew.refl hBq.2, rfl⟩
          simp only [lay, Act.put, List.setIfInBounds_toArray, List.set_cons_zero, List.set_cons_succ, List.getD_cons_zero, List.getD_cons_succ, id_eq]
        replace hi : i < 16 := by omega
        clear h16
        by_cases h15 : i = 15
        · subst h15
          refine wpOp_step (o := _) rfl (fun K' hK => ?_)
          have HK := Lib.hid hK
          clear hK
          simp only [lay, Act.put, List.setIfInBounds_toArray, List.set_cons_zero, List.set_cons_succ, List.getD_cons_zero, List.getD_cons_succ, id_eq]
          go_simp
          refine HK.out _ _ ⟨_, ?_, Drew.refl hBq.2, rfl⟩
          simp only [lay, Act.put, List.setIfInBounds_toArray, List.set_cons_zero, List.set_cons_succ, List.getD_cons_zero, List.getD_cons_succ, id_eq]
        replace hi : i < 15 := by omega
        clear h15
        by_cases h14 : i = 14
        · subst h14
          have hl2 : isStr (s.size) (vs 2) wq := hd 2 (List.contains_iff_mem.1 (by kernel_rfl))
          cases hl2 with | intro x2 hl2 =>
          have e2' := hl2.1
          have b2 := hl2.2
          have hl13 : isStr (1) (vs 13) wq := hd 13 (List.contains_iff_mem.1 (by kernel_rfl))
          cases hl13 with | intro x13 hl13 =>
          have e13' := hl13.1
          have b13 := hl13.2
          have hno : ¬ (9223372036854775807 < x2.size + x13.size) := by omega
          refine wpOp_step (o := _) rfl (fun K' hK => ?_)
          have HK := Lib.hid hK
          clear hK
          simp only [lay, Act.put, List.setIfInBounds_toArray, List.set_cons_zero, List.set_cons_succ, List.getD_cons_zero, List.getD_cons_succ, id_eq]
          rw [e2', e13']
          go_simp
          refine HK.out _ _ ⟨_, ?_, Drew.refl hBq.2, ⟨x2 ++ x13, rfl, by rw [ByteArray.size_append]; omega⟩⟩
          simp only [lay, Act.put, List.setIfInBounds_toArray, List.set_cons_zero, List.set_cons_succ, List.getD_cons_zero, List.getD_cons_succ, id_eq]
          rw [e2', e13']
        replace hi : i < 14 := by omega
        clear h14
        by_cases h13 : i = 13
        · subst h13
          have hl12 : isB1 g (vs 12) wq := hd 12 (List.contains_iff_mem.1 (by kernel_rfl))
          cases hl12 with | intro bb hl12 =>
          cases hl12 with | intro y hl12 =>
          have e12' := hl12.1
          have hh := hl12.2.1
          have hcv := convB hh
          refine wpOp_step (o := _) rfl (fun K' hK => ?_)
          have HK := Lib.hid hK
          clear hK
          simp only [lay, Act.put, List.setIfInBounds_toArray, List.set_cons_zero, List.set_cons_succ, List.getD_cons_zero, List.getD_cons_succ, id_eq]
          rw [e12']
          go_simp
          refine HK.out _ _ ⟨_, ?_, Drew.refl hBq.2, ⟨⟨[UInt8.ofNat y.toNat].toArray⟩, rfl, by rw [mk_sizeB]; exact Nat.le_refl _⟩⟩
          simp only [lay, Act.put, List.setIfInBounds_toArray, List.set_cons_zero, List.set_cons_succ, List.getD_cons_zero, List.getD_cons_succ, id_eq]
          rw [e12']
        replace hi : i < 13 := by omega
        clear h13
        by_cases h12 : i = 12
        · subst h12
          have hl11 : isU8 (vs 11) wq := hd 11 (List.contains_iff_mem.1 (by kernel_rfl))
          cases hl11 with | intro y hl11 =>
          have e11' := hl11
          refine wpOp_step (o := _) rfl (fun K' hK => ?_)
          have HK := Lib.hid hK
          clear hK
          simp only [lay, Act.put, List.setIfInBounds_toArray, List.set_cons_zero, List.set_cons_succ, List.getD_cons_zero, List.getD_cons_succ, id_eq]
          rw [e11']
          go_simp
          refine HK.out _ _ ⟨_, ?_, (Drew.refl hBq.2).alloc _, ⟨_, _, rfl, heap_alloc_new _ _, Nat.ne_of_gt hBq.2.lt⟩⟩
          simp only [lay, Act.put, List.setIfInBounds_toArray, List.set_cons_zero, List.set_cons_succ, List.getD_cons_zero, List.getD_cons_succ, id_eq]
          rw [e11']
        replace hi : i < 12 := by omega
        clear h12
        by_cases h11 : i = 11
        · subst h11
          have hl10 : isAny (vs 10) wq := hd 10 (List.contains_iff_mem.1 (by kernel_rfl))
          cases hl10 with | intro y hl10 =>
          have e10' := hl10
          refine wpOp_step (o := _) rfl (fun K' hK => ?_)
          have HK := Lib.hid hK
          clear hK
          simp only [lay, Act.put, List.setIfInBounds_toArray, List.set_cons_zero, List.set_cons_succ, List.getD_cons_zero, List.getD_cons_succ, id_eq]
          rw [e10']
          go_simp
          refine HK.out _ _ (Exists.intro ?v5 ⟨?e5, Drew.refl hBq.2, ?p5⟩)
          case e5 =>
            simp only [lay, Act.put, List.setIfInBounds_toArray, List.set_cons_zero, List.set_cons_succ, List.getD_cons_zero, List.getD_cons_succ, id_eq]
            rw [e10']
          case p5 => exact ⟨_, rfl⟩
        replace hi : i < 11 := by omega
        clear h11
        by_cases h10 : i = 10
        · subst h10
          have hl6 : isAny (vs 6) wq := hd 6 (List.contains_iff_mem.1 (by kernel_rfl))
          cases hl6 with | intro y hl6 =>
          have e6' := hl6
          have hl9 : isAny (vs 9) wq := hd 9 (List.contains_iff_mem.1 (by kernel_rfl))
          cases hl9 with | intro z hl9 =>
          have e9' := hl9
          refine wpOp_step (o := _) rfl (fun K' hK => ?_)
          have HK := Lib.hid hK
          clear hK
          simp only [lay, Act.put, List.setIfInBounds_toArray, List.set_cons_zero, List.set_cons_succ, List.getD_cons_zero, List.getD_cons_succ, id_eq]
          rw [e6', e9']
          go_simp
          refine HK.out _ _ (Exists.intro ?v4 ⟨?e4, Drew.refl hBq.2, ?p4⟩)
          case e4 =>
            simp only [lay, Act.put, List.setIfInBounds_toArray, List.set_cons_zero, List.set_cons_succ, List.getD_cons_zero, List.getD_cons_succ, id_eq]
            rw [e6', e9']
          case p4 => exact ⟨_, rfl⟩
        replace hi : i < 10 := by omega
        clear h10
        by_cases h9 : i = 9
        · subst h9
          have hl8 : isJ 0 255 (vs 8) wq := hd 8 (List.contains_iff_mem.1 (by kernel_rfl))
          cases hl8 with | intro y hl8 =>
          have e8' := hl8.1
          refine wpOp_step (o := _) rfl (fun K' hK => ?_)
          have HK := Lib.hid hK
          clear hK
          simp only [lay, Act.put, List.setIfInBounds_toArray, List.set_cons_zero, List.set_cons_succ, List.getD_cons_zero, List.getD_cons_succ, id_eq]
          rw [e8']
          go_simp
          refine HK.out _ _ (Exists.intro ?v3 ⟨?e3, Drew.refl hBq.2, ?p3⟩)
          case e3 =>
            simp only [lay, Act.put, List.setIfInBounds_toArray, List.set_cons_zero, List.set_cons_succ, List.getD_cons_zero, List.getD_cons_succ, id_eq]
            rw [e8']
          case p3 => exact ⟨_, rfl⟩
        replace hi : i < 9 := by omega
        clear h9
        by_cases h8 : i = 8
        · subst h8
          have e7' : vs 7 = .pointer (some ⟨g, 0, none⟩) := hd 7 (List.contains_iff_mem.1 (by kernel_rfl))
          refine wpOp_step (o := _) rfl (fun K' hK => ?_)
          have HK := Lib.hid hK
          clear hK
          simp only [lay, Act.put, List.setIfInBounds_toArray, List.set_cons_zero, List.set_cons_succ, List.getD_cons_zero, List.getD_cons_succ, id_eq]
          rw [e7']
          go_simp
          go_at_call 28
          refine (below_small g 255 wq (by decide) (by decide) hBq.2).mono ?_
          rintro e w2 ⟨y, rfl, hy0, hy1, hd⟩
          refine HK.out _ _ ⟨_, ?_, hd, ⟨y, rfl, hy0, hy1⟩⟩
          simp only [lay, Act.put, List.setIfInBounds_toArray, List.set_cons_zero, List.set_cons_succ, List.getD_cons_zero, List.getD_cons_succ, id_eq]
          rw [e7']
        replace hi : i < 8 := by omega
        clear h8
        by_cases h7 : i = 7
        · subst h7
          refine wpOp_step (o := _) rfl (fun K' hK => ?_)
          have HK := Lib.hid hK
          clear hK
          simp only [lay, Act.put, List.setIfInBounds_toArray, List.set_cons_zero, List.set_cons_succ, List.getD_cons_zero, List.getD_cons_succ, id_eq]
          go_simp
          refine HK.out _ _ ⟨_, ?_, Drew.refl hBq.2, rfl⟩
          simp only [lay, Act.put, List.setIfInBounds_toArray, List.set_cons_zero, List.set_cons_succ, List.getD_cons_zero, List.getD_cons_succ, id_eq]
        replace hi : i < 7 := by omega
        clear h7
        by_cases h6 : i = 6
        · subst h6
          have hl5 : isU8 (vs 5) wq := hd 5 (List.contains_iff_mem.1 (by kernel_rfl))
          cases hl5 with | intro y hl5 =>
          have e5' := hl5
          refine wpOp_step (o := _) rfl (fun K' hK => ?_)
          have HK := Lib.hid hK
          clear hK
          simp only [lay, Act.put, List.setIfInBounds_toArray, List.set_cons_zero, List.set_cons_succ, List.getD_cons_zero, List.getD_cons_succ, id_eq]
          rw [e5']
          go_simp
          refine HK.out _ _ (Exists.intro ?v2 ⟨?e2, Drew.refl hBq.2, ?p2⟩)
          case e2 =>
            simp only [lay, Act.put, List.setIfInBounds_toArray, List.set_cons_zero, List.set_cons_succ, List.getD_cons_zero, List.getD_cons_succ, id_eq]
            rw [e5']
          case p2 => exact ⟨_, rfl⟩
        replace hi : i < 6 := by omega
        clear h6
        by_cases h5 : i = 5
        · subst h5
          have e3' : vs 3 = .string s := hd 3 (List.contains_iff_mem.1 (by kernel_rfl))
          have e4' : vs 4 = .int .i64 (k : Int) := hd 4 (List.contains_iff_mem.1 (by kernel_rfl))
          refine wpOp_step (o := _) rfl (fun K' hK => ?_)
          have HK := Lib.hid hK
          clear hK
          simp only [lay, Act.put, List.setIfInBounds_toArray, List.set_cons_zero, List.set_cons_succ, List.getD_cons_zero, List.getD_cons_succ, id_eq]
          rw [e3', e4']
          go_simp
          refine HK.out _ _ (Exists.intro ?v1 ⟨?e1, Drew.refl hBq.2, ?p1⟩)
          case e1 =>
            simp only [lay, Act.put, List.setIfInBounds_toArray, List.set_cons_zero, List.set_cons_succ, List.getD_cons_zero, List.getD_cons_succ, id_eq]
            rw [e3', e4']
          case p1 => exact ⟨_, rfl⟩
        replace hi : i < 5 := by omega
        clear h5
        by_cases h4 : i = 4
        · subst h4
          refine wpOp_step (o := _) rfl (fun K' hK => ?_)
          have HK := Lib.hid hK
          clear hK
          simp only [lay, Act.put, List.setIfInBounds_toArray, List.set_cons_zero, List.set_cons_succ, List.getD_cons_zero, List.getD_cons_succ, id_eq]
          go_simp
          refine HK.out _ _ ⟨_, ?_, Drew.refl hBq.2, rfl⟩
          simp only [lay, Act.put, List.setIfInBounds_toArray, List.set_cons_zero, List.set_cons_succ, List.getD_cons_zero, List.getD_cons_succ, id_eq]
        replace hi : i < 4 := by omega
        clear h4
        by_cases h3 : i = 3
        · subst h3
          refine wpOp_step (o := _) rfl (fun K' hK => ?_)
          have HK := Lib.hid hK
          clear hK
          simp only [lay, Act.put, List.setIfInBounds_toArray, List.set_cons_zero, List.set_cons_succ, List.getD_cons_zero, List.getD_cons_succ, id_eq]
          go_simp
          refine HK.out _ _ ⟨_, ?_, Drew.refl hBq.2, rfl⟩
          simp only [lay, Act.put, List.setIfInBounds_toArray, List.set_cons_zero, List.set_cons_succ, List.getD_cons_zero, List.getD_cons_succ, id_eq]
        replace hi : i < 3 := by omega
        clear h3
        by_cases h2 : i = 2
        · subst h2
          have e0' : vs 0 = .string s := hd 0 (List.contains_iff_mem.1 (by kernel_rfl))
          have e1' : vs 1 = .int .i64 (k : Int) := hd 1 (List.contains_iff_mem.1 (by kernel_rfl))
          refine wpOp_step (o := _) rfl (fun K' hK => ?_)
          have HK := Lib.hid hK
          clear hK
          simp only [lay, Act.put, List.setIfInBounds_toArray, List.set_cons_zero, List.set_cons_succ, List.getD_cons_zero, List.getD_cons_succ, id_eq]
          rw [e0', e1']
          go_simp
          refine HK.out _ _ ⟨_, ?_, Drew.refl hBq.2, ⟨s.extract 0 k, rfl, by rw [ByteArray.size_extract]; omega⟩⟩
          simp only [lay, Act.put, List.setIfInBounds_toArray, List.set_cons_zero, List.set_cons_succ, List.getD_cons_zero, List.getD_cons_succ, id_eq]
          rw [e0', e1']
        replace hi : i < 2 := by omega
        clear h2
        by_cases h1 : i = 1
        · subst h1
          refine wpOp_step (o := _) rfl (fun K' hK => ?_)
          have HK := Lib.hid hK
          clear hK
          simp only [lay, Act.put, List.setIfInBounds_toArray, List.set_cons_zero, List.set_cons_succ, List.getD_cons_zero, List.getD_cons_succ, id_eq]
          go_simp
          refine HK.out _ _ ⟨_, ?_, Drew.refl hBq.2, rfl⟩
          simp only [lay, Act.put, List.setIfInBounds_toArray, List.set_cons_zero, List.set_cons_succ, List.getD_cons_zero, List.getD_cons_succ, id_eq]
        replace hi : i < 1 := by omega
        clear h1
        by_cases h0 : i = 0
        · subst h0
          refine wpOp_step (o := _) rfl (fun K' hK => ?_)
          have HK := Lib.hid hK
          clear hK
          simp only [lay, Act.put, List.setIfInBounds_toArray, List.set_cons_zero, List.set_cons_succ, List.getD_cons_zero, List.getD_cons_succ, id_eq]
          go_simp
          refine HK.out _ _ ⟨_, ?_, Drew.refl hBq.2, rfl⟩
          simp only [lay, Act.put, List.setIfInBounds_toArray, List.set_cons_zero, List.set_cons_succ, List.getD_cons_zero, List.getD_cons_succ, id_eq]
        replace hi : i < 0 := by omega
        clear h0
        exact absurd hi (Nat.not_lt_zero _)
      case tail =>
        intro vs wq hBq hf
        simp only [lay, Act.put, List.setIfInBounds_toArray, List.set_cons_zero, List.set_cons_succ, List.getD_cons_zero, List.getD_cons_succ, id_eq]
        have hx : isStr (((s.size) + (1)) + (s.size)) (vs 19) wq := hf 19 (by decide)
        cases hx with | intro z hx =>
        have ez := hx.1
        have bz := hx.2
        clear hx
        rw [ez]
        clear ez
        refine any_all (rs := [20]) (by kernel_rfl) (by simp) ?_
        intro i hi
        simp only [List.mem_cons, List.not_mem_nil, or_false] at hi
        subst hi
        refine wpOp_step (o := _) rfl (fun K' hK => ?_)
        have HK := Lib.hid hK
        clear hK
        go_simp
        refine HK.out _ _ ?_
        clear HK K'
        try simp only [Act.put, List.setIfInBounds_toArray, List.set_cons_zero, List.set_cons_succ]
        refine any_done (by kernel_rfl) ?_ _
        replace HD := Lib.hid (HD.out.trans hBq)
        clear hBq
        go_wp2_with fail
        go_ret
        exact ⟨_, rfl, by omega, HD.out⟩
set_option maxRecDepth 100000 in
set_option maxHeartbeats 4000000 in
theorem drawReceiveChunk (A : Option Addr) (len cap : Nat) (zs : List Int) (w : World) (hc : Code w A len cap zs) :
    Calls Tryz.prog 19 #[.slice A len cap] w fun e w' => ∃ (v : Value) (P : List ByteArray) (s : ByteArray), e = .returned (.tuple #[v, .string s]) ∧ Small P ∧ s.size ≤ 1000 ∧ OwnW w.heap.size w' v P ∧ Below w.heap.size w w' := by
  have C1 := Lib.hid (new_any A len cap zs w hc.row hc.low)
  go_enter Tryz.func19, Tryz.ntmps19
  go_wp2_with fail
  refine (C1.out).mono ?_
  rintro e w1 ⟨rfl, hcur, hb1⟩
  have C2 := Lib.hid (parts_any w.heap.size w1 hcur)
  have hlt := hcur.lt
  clear C1
  go_wp2_with fail
  refine (C2.out).mono ?_
  rintro e w2 ⟨va, vp, B, P, rfl, hB, hP, oA, oP, hd⟩
  obtain ⟨xa, xc, rfl⟩ := oA.shape
  obtain ⟨ya, yc, rfl⟩ := oP.shape
  have hb2 := drew_below hb1 (Nat.le_refl _) hd
  have HSP := Lib.hid hP
  have hB40 := hB.1
  have HSB := Lib.hid hB
  by_cases h0 : B.length = 0
  · have t0 : ((B.length : Int) == 0) = true := by rw [h0]; rfl
    have t1 : (B.length == 0) = true := by rw [h0]; rfl
    have p2 := oP.mono (Nat.le_of_lt hlt)
    clear h0 C2 hP hB oA
    go_wp2_with fail
    go_ret2
    exact ⟨_, P, _, rfl, HSP.out, by decide, p2, hb2⟩
  · have t0 : ((B.length : Int) == 0) = false := by rw [beq_eq_false_iff_ne]; omega
    have t1 : (B.length == 0) = false := by rw [beq_eq_false_iff_ne]; omega
    have C3 := Lib.hid (below_small w.heap.size (B.length : Int) w2 (by omega) (by omega) hd.2)
    have HOA := Lib.hid oA
    have HOP := Lib.hid oP
    have HB2 := Lib.hid hb2
    clear C2 oA oP hP hB hd hb1 hb2 hcur
    go_wp2_with fail
    refine (C3.out).mono ?_
    rintro e w3 ⟨k, rfl, hk0, hk1, hd3⟩
    obtain ⟨k, rfl⟩ := Int.eq_ofNat_of_zero_le hk0
    have hkB : k < B.length := by omega
    replace HOA := Lib.hid (HOA.out.drew hd3 hlt)
    replace HOP := Lib.hid (HOP.out.drew hd3 hlt)
    replace HB2 := Lib.hid (drew_below HB2.out (Nat.le_refl _) hd3)
    have hsz : (B.getD k .empty).size ≤ 100 := HSB.out.2 k
    obtain ⟨ga, ca, hv, _⟩ := HOA.out.there (by omega)
    injection hv with hv1 hv2 hv3
    subst hv1 hv3
    have hc7 := cellW HOA.out k hkB
    generalize B.getD k .empty = q at *
    have C4 := Lib.hid (once_any w.heap.size 4 w3 (by decide) (by decide) hd3.2)
    have k2 : (k : Int) < (B.length : Int) := by omega
    clear C3 hv2
    go_wp2_with fail
    refine (C4.out).mono ?_
    rintro e w4 ⟨b, rfl, hd4⟩
    have HCU := Lib.hid hd4.2
    replace HOP := Lib.hid (HOP.out.drew hd4 hlt)
    replace HB2 := Lib.hid (drew_below HB2.out (Nat.le_refl _) hd4)
    clear hd3 hd4 C4 hc7 HOA
    cases b with
    | false =>
      go_wp2_with fail
      go_ret2
      exact ⟨_, P, q, rfl, HSP.out, by omega, HOP.out.mono (Nat.le_of_lt hlt), HB2.out⟩
    | true =>
      have C5 := Lib.hid (spoil_any w.heap.size q w4 (by omega) HCU.out)
      go_wp2_with fail
      refine (C5.out).mono ?_
      rintro e w5 ⟨t, rfl, ht, hd5⟩
      replace HOP := Lib.hid (HOP.out.drew hd5 hlt)
      replace HB2 := Lib.hid (drew_below HB2.out (Nat.le_refl _) hd5)
      clear hd5 C5
      go_wp2_with fail
      go_ret2
      exact ⟨_, P, t, rfl, HSP.out, by omega, HOP.out.mono (Nat.le_of_lt hlt), HB2.out⟩
end Go.Proofs.YtpdpejlcilnafaaGreatDoor.kit
namespace Go.Proofs.YtpdpejlcilnafaaGreatDoor.fnChunks
open Go.ChangeShapes Go.WideShapes Go.ChangeAt Go.RowKit
open Go.ChangeMaps (open_string shut_string)
open kit
set_option linter.unusedVariables false
set_option linter.unusedSimpArgs false

theorem small_N {n : Nat} {l : List ByteArray} (h : Small l) (hn : 100 ≤ n) : SmallN n l := ⟨h.1, fun j => Nat.le_trans (h.2 j) hn⟩
theorem cellOf {w : World} {a : Option Addr} {l : List ByteArray} (h : AtW w a l) {k : Nat} (hk : k < l.length) : ∃ x : Addr, a = some x ∧ w.cell? (x.add k) = some (.string (l.getD k .empty)) := by
  obtain ⟨x, hx, _, hc⟩ := h k hk
  exact ⟨x, hx, hc⟩
set_option maxRecDepth 100000 in
set_option maxHeartbeats 8000000 in
theorem walk (a0 : Option Addr) (len0 cap0 : Nat) (z0 : List Int) (w : World) (w0 : IsRow .u8 w a0 len0 cap0 z0) (hT : Tab w) (hM : MS w) :
    Calls Tryz.prog 4 #[.slice a0 len0 cap0] w fun e w' => e = .returned (.bool true) ∧ Below w.heap.size w w' := by
  have hl : len0 ≤ 9223372036854775807 := by
    rcases w0 with ⟨_, h, _⟩ | ⟨_, _, h1, h2, _⟩
    · omega
    · unfold maxLen at h2; omega
  have hcode := Lib.hid (code_of_row w0)
  have HT := Lib.hid hT
  have HM := Lib.hid hM
  clear w0 hT hM
  by_cases hbig : 1048576 < len0
  · have CB := Lib.hid (big_yes a0 len0 cap0 w hbig hl)
    clear hbig
    go_enter Tryz.func4, Tryz.ntmps4
    go_wp2_with fail
    refine (CB.out).mono ?_
    rintro e w1 ⟨rfl, rfl⟩
    go_wp2_with fail
    go_ret
    exact ⟨rfl, Below.refl _ _⟩
  have CB := Lib.hid (big_no a0 len0 cap0 w hbig)
  clear hbig
  go_enter Tryz.func4, Tryz.ntmps4
  go_wp2_with fail
  refine (CB.out).mono ?_
  rintro e w1 ⟨rfl, rfl⟩
  have HB := Lib.hid (Below.refl w.heap.size w)
  clear CB
  have J := Lib.hid (drawReceiveChunk a0 len0 cap0 z0 w hcode.out)
  go_wp2_with fail
  refine (J.out).mono ?_
  rintro e w2 ⟨v, Q, s, rfl, hSm, hs, ho, hb⟩
  obtain ⟨yv, qv, rfl⟩ := ho.shape
  have HP := Lib.hid ho
  have HSm := Lib.hid (small_N (n := 1000) hSm (by omega))
  have hQ : Q.length ≤ 40 := hSm.1
  clear ho hSm
  replace HB := Lib.hid (HB.out.trans (hb.mono HB.out.size))
  clear hb J
  have J := Lib.hid (implReceiveChunkM _ _ Q s w2 (by omega) (HSm.out.bound (by omega)) HP.out (by omega) (HT.out.below HB.out) (HM.out.below HB.out))
  go_wp2_with fail
  refine (J.out).mono ?_
  rintro e w3 ⟨ux, rfl, ho, hb⟩
  obtain ⟨yx, qx, rfl⟩ := ho.shape
  have HX := Lib.hid ho
  clear ho
  replace HP := Lib.hid (HP.out.later hb)
  replace HB := Lib.hid (HB.out.trans (hb.mono HB.out.size))
  clear hb J
  have J := Lib.hid (specReceiveChunk _ _ Q s w3 (by omega) (HSm.out.bound (by omega)) HP.out (by omega))
  go_wp2_with fail
  refine (J.out).mono ?_
  rintro e w4 ⟨uy, rfl, ho, hb⟩
  obtain ⟨yy, qy, rfl⟩ := ho.shape
  have HY := Lib.hid ho
  clear ho
  replace HX := Lib.hid (HX.out.later hb)
  replace HB := Lib.hid (HB.out.trans (hb.mono HB.out.size))
  clear hb J
  have HAG := Lib.hid (fun h => rec_again (P := Q) (s := s) h)
  have HSX := Lib.hid (smallN_rec HSm.out hs)
  obtain ⟨_, _, e1, _, _, atx, _⟩ := HX.out.form
  cases e1
  obtain ⟨_, _, e2, _, _, aty, _⟩ := HY.out.form
  cases e2
  have HAa := Lib.hid atx
  have HAb := Lib.hid aty
  clear atx aty HP HY
  generalize recL Q s = X at *
  generalize recOk Q s = r at *
  have hX : X.length ≤ 40 := HSX.out.1
  have tr : (r != r) = false := by simp
  have tn : (X.length != X.length) = false := by simp
  have tn' : ((X.length : Int) != (X.length : Int)) = false := by simp
  go_wp2_with fail
  clear tr tn tn'
  go_loopw [9] (fun i wr => ∃ k : Nat, k ≤ X.length ∧ i = .int .i64 k ∧ Hid (Drawn w4 wr)) (fun i _ => X.length - (intOf i).toNat)
  case atStart => exact ⟨0, Nat.zero_le _, rfl, Lib.hid (Drawn.refl _)⟩
  case round =>
    obtain ⟨k, hk, rfl, HQ⟩ := hrel
    by_cases hlt : k < X.length
    · obtain ⟨xa, hxa, ca⟩ := cellOf HAa.out hlt
      obtain ⟨xb, hxb, cb⟩ := cellOf HAb.out hlt
      subst hxa hxb
      have ca := HQ.out.cell ca
      have cb := HQ.out.cell cb
      generalize X.getD k .empty = z at *
      have t1 : (z.toList == z.toList) = true := tl_eq z
      have t2 : (z.toList != z.toList) = false := by simp
      have k3 : (0 : Int) ≤ (k : Int) := by omega
      have k5 : (k : Int) < (X.length : Int) := by omega
      go_wp2_with fail
      go_region
      go_wp2_with fail
      go_roundw
      case rel => exact ⟨k + 1, by omega, by go_num, Lib.hid (HQ.out.more _)⟩
      case measure => simp [intOf]; omega
    · have hb := HQ.out.below w4.heap.size
      clear HAa HAb
      replace HX := Lib.hid (HX.out.later hb)
      replace HB := Lib.hid (HB.out.trans (hb.mono HB.out.size))
      clear hb HQ
      obtain ⟨w5, rfl⟩ : ∃ W, W = wr := ⟨_, rfl⟩
      cases r with
      | true =>
        have J0 := implReceiveChunkM _ _ X s w5 (by omega) (HSX.out.bound (by omega)) HX.out (by omega) (HT.out.below HB.out) (HM.out.below HB.out)
        rw [HAG.out rfl] at J0
        have J := Lib.hid J0
        clear J0
        go_wp2_with fail
        refine (J.out).mono ?_
        rintro e w6 ⟨uz, rfl, ho, hb⟩
        clear ho
        replace HB := Lib.hid (HB.out.trans (hb.mono HB.out.size))
        clear hb J
        clear HX HAG HSX HSm
        have J := Lib.hid (drawEncodeChunks a0 len0 cap0 z0 w6 (hcode.out.below HB.out))
        go_wp2_with fail
        refine (J.out).mono ?_
        rintro e w7 ⟨T, z, rfl, hTl, hz, hb⟩
        obtain ⟨S, hS⟩ : ∃ S : ByteArray, S = ⟨T.toArray⟩ := ⟨_, rfl⟩
        have hSl : S.size ≤ 2000 := by rw [hS, mk_sizeB]; exact hTl
        rw [← hS]
        clear hS hTl hz
        replace HB := Lib.hid (HB.out.trans (hb.mono HB.out.size))
        clear hb J
        have J := Lib.hid (implEncodeChunks S z w7 (by omega) (HT.out.below HB.out))
        go_wp2_with fail
        refine (J.out).mono ?_
        rintro e w8 ⟨ua, rfl, ho, hb⟩
        obtain ⟨ya, qa, rfl⟩ := ho.shape
        have HE := Lib.hid ho
        clear ho
        replace HB := Lib.hid (HB.out.trans (hb.mono HB.out.size))
        clear hb J
        have J := Lib.hid (specEncodeChunks S z w8 (by omega))
        go_wp2_with fail
        refine (J.out).mono ?_
        rintro e w9 ⟨ub, rfl, ho, hb⟩
        obtain ⟨yb, qb, rfl⟩ := ho.shape
        have HF := Lib.hid ho
        clear ho
        replace HE := Lib.hid (HE.out.later hb)
        replace HB := Lib.hid (HB.out.trans (hb.mono HB.out.size))
        clear hb J
        obtain ⟨_, _, e1, _, _, atx, _⟩ := HE.out.form
        cases e1
        obtain ⟨_, _, e2, _, _, aty, _⟩ := HF.out.form
        cases e2
        have HAa := Lib.hid atx
        have HAb := Lib.hid aty
        clear atx aty HE HF
        have hel := encCh_len S.data.toList z
        generalize encCh S.data.toList z = E at *
        have tn : (E.length != E.length) = false := by simp
        have tn' : ((E.length : Int) != (E.length : Int)) = false := by simp
        go_wp2_with fail
        clear tn tn'
        go_loopw [16] (fun i wr => ∃ k : Nat, k ≤ E.length ∧ i = .int .i64 k ∧ Hid (Drawn w9 wr)) (fun i _ => E.length - (intOf i).toNat)
        case atStart => exact ⟨0, Nat.zero_le _, rfl, Lib.hid (Drawn.refl _)⟩
        case round =>
          obtain ⟨k, hk, rfl, HQ⟩ := hrel
          by_cases hlt : k < E.length
          · obtain ⟨xa, hxa, ca⟩ := cellOf HAa.out hlt
            obtain ⟨xb, hxb, cb⟩ := cellOf HAb.out hlt
            subst hxa hxb
            have ca := HQ.out.cell ca
            have cb := HQ.out.cell cb
            generalize E.getD k .empty = z at *
            have t1 : (z.toList == z.toList) = true := tl_eq z
            have t2 : (z.toList != z.toList) = false := by simp
            have k3 : (0 : Int) ≤ (k : Int) := by omega
            have k5 : (k : Int) < (E.length : Int) := by omega
            go_wp2_with fail
            go_region
            go_wp2_with fail
            go_roundw
            case rel => exact ⟨k + 1, by omega, by go_num, Lib.hid (HQ.out.more _)⟩
            case measure => simp [intOf]; omega
          · have hb := HQ.out.below w9.heap.size
            clear HAa HAb
            replace HB := Lib.hid (HB.out.trans (hb.mono HB.out.size))
            clear hb HQ
            obtain ⟨w10, rfl⟩ : ∃ W, W = wr := ⟨_, rfl⟩
            have J := Lib.hid (drawJoinChunks a0 len0 cap0 z0 w10 (hcode.out.below HB.out))
            go_wp2_with fail
            refine (J.out).mono ?_
            rintro e w11 ⟨vp, R, t, rfl, hR, ht0, ht1, ho, hb⟩
            obtain ⟨yp, qp, rfl⟩ := ho.shape
            have HR := Lib.hid ho
            have HRS := Lib.hid (small_N (n := 1000) hR (by omega))
            have hRl : R.length ≤ 40 := hR.1
            clear ho hR
            replace HB := Lib.hid (HB.out.trans (hb.mono HB.out.size))
            clear hb J
            have J := Lib.hid (implJoinChunks _ _ R t w11 (by omega) (HRS.out.bound (by omega)) HR.out (HT.out.below HB.out) (HM.out.below HB.out).1)
            go_wp2_with fail
            refine (J.out).mono ?_
            rintro e w12 ⟨rfl, hb⟩
            replace HR := Lib.hid (HR.out.later hb)
            replace HB := Lib.hid (HB.out.trans (hb.mono HB.out.size))
            clear hb J
            have J := Lib.hid (specJoinChunks _ _ R t w12 (by omega) (HRS.out.bound (by omega)) HR.out)
            go_wp2_with fail
            refine (J.out).mono ?_
            rintro e w13 ⟨rfl, hb⟩
            replace HR := Lib.hid (HR.out.later hb)
            replace HB := Lib.hid (HB.out.trans (hb.mono HB.out.size))
            clear hb J
            have j1 := implMissingChunk _ _ R t w13 (by omega) (HRS.out.bound (by omega)) HR.out
            have j2 := fun W (hw : Below w13.heap.size w13 W) => specMissingChunk _ _ R t W (by omega) (HRS.out.bound (by omega)) (HR.out.later hw)
            generalize missC R t = q at *
            generalize joinOk R t = f at *
            obtain ⟨U, hU⟩ : ∃ U : ByteArray, U = ⟨(joinS R t).toArray⟩ := ⟨_, rfl⟩
            rw [← hU]
            clear hU
            have tf : (f == f) = true := by cases f <;> rfl
            have tu : (U.toList == U.toList) = true := tl_eq U
            have tq : (q == q) = true := by simp
            have J1 := Lib.hid j1
            have J2 := Lib.hid j2
            clear j1 j2
            go_wp2_with fail
            refine (J1.out).mono ?_
            rintro e w14 ⟨rfl, hb1⟩
            have J3 := Lib.hid (J2.out _ hb1)
            go_wp2_with fail
            refine (J3.out).mono ?_
            rintro e w15 ⟨rfl, hb2⟩
            have HZ := Lib.hid ((HB.out.trans (hb1.mono HB.out.size)).trans (hb2.mono (Nat.le_trans HB.out.size hb1.size)))
            clear hb1 hb2 J1 J2 J3
            go_wp2_with fail
            go_ret
            exact ⟨rfl, HZ.out⟩
      | false =>
        clear HX HAG HSX HSm
        obtain ⟨w6, rfl⟩ : ∃ W, W = w5 := ⟨_, rfl⟩
        have J := Lib.hid (drawEncodeChunks a0 len0 cap0 z0 w6 (hcode.out.below HB.out))
        go_wp2_with fail
        refine (J.out).mono ?_
        rintro e w7 ⟨T, z, rfl, hTl, hz, hb⟩
        obtain ⟨S, hS⟩ : ∃ S : ByteArray, S = ⟨T.toArray⟩ := ⟨_, rfl⟩
        have hSl : S.size ≤ 2000 := by rw [hS, mk_sizeB]; exact hTl
        rw [← hS]
        clear hS hTl hz
        replace HB := Lib.hid (HB.out.trans (hb.mono HB.out.size))
        clear hb J
        have J := Lib.hid (implEncodeChunks S z w7 (by omega) (HT.out.below HB.out))
        go_wp2_with fail
        refine (J.out).mono ?_
        rintro e w8 ⟨ua, rfl, ho, hb⟩
        obtain ⟨ya, qa, rfl⟩ := ho.shape
        have HE := Lib.hid ho
        clear ho
        replace HB := Lib.hid (HB.out.trans (hb.mono HB.out.size))
        clear hb J
        have J := Lib.hid (specEncodeChunks S z w8 (by omega))
        go_wp2_with fail
        refine (J.out).mono ?_
        rintro e w9 ⟨ub, rfl, ho, hb⟩
        obtain ⟨yb, qb, rfl⟩ := ho.shape
        have HF := Lib.hid ho
        clear ho
        replace HE := Lib.hid (HE.out.later hb)
        replace HB := Lib.hid (HB.out.trans (hb.mono HB.out.size))
        clear hb J
        obtain ⟨_, _, e1, _, _, atx, _⟩ := HE.out.form
        cases e1
        obtain ⟨_, _, e2, _, _, aty, _⟩ := HF.out.form
        cases e2
        have HAa := Lib.hid atx
        have HAb := Lib.hid aty
        clear atx aty HE HF
        have hel := encCh_len S.data.toList z
        generalize encCh S.data.toList z = E at *
        have tn : (E.length != E.length) = false := by simp
        have tn' : ((E.length : Int) != (E.length : Int)) = false := by simp
        go_wp2_with fail
        clear tn tn'
        go_loopw [16] (fun i wr => ∃ k : Nat, k ≤ E.length ∧ i = .int .i64 k ∧ Hid (Drawn w9 wr)) (fun i _ => E.length - (intOf i).toNat)
        case atStart => exact ⟨0, Nat.zero_le _, rfl, Lib.hid (Drawn.refl _)⟩
        case round =>
          obtain ⟨k, hk, rfl, HQ⟩ := hrel
          by_cases hlt : k < E.length
          · obtain ⟨xa, hxa, ca⟩ := cellOf HAa.out hlt
            obtain ⟨xb, hxb, cb⟩ := cellOf HAb.out hlt
            subst hxa hxb
            have ca := HQ.out.cell ca
            have cb := HQ.out.cell cb
            generalize E.getD k .empty = z at *
            have t1 : (z.toList == z.toList) = true := tl_eq z
            have t2 : (z.toList != z.toList) = false := by simp
            have k3 : (0 : Int) ≤ (k : Int) := by omega
            have k5 : (k : Int) < (E.length : Int) := by omega
            go_wp2_with fail
            go_region
            go_wp2_with fail
            go_roundw
            case rel => exact ⟨k + 1, by omega, by go_num, Lib.hid (HQ.out.more _)⟩
            case measure => simp [intOf]; omega
          · have hb := HQ.out.below w9.heap.size
            clear HAa HAb
            replace HB := Lib.hid (HB.out.trans (hb.mono HB.out.size))
            clear hb HQ
            obtain ⟨w10, rfl⟩ : ∃ W, W = wr := ⟨_, rfl⟩
            have J := Lib.hid (drawJoinChunks a0 len0 cap0 z0 w10 (hcode.out.below HB.out))
            go_wp2_with fail
            refine (J.out).mono ?_
            rintro e w11 ⟨vp, R, t, rfl, hR, ht0, ht1, ho, hb⟩
            obtain ⟨yp, qp, rfl⟩ := ho.shape
            have HR := Lib.hid ho
            have HRS := Lib.hid (small_N (n := 1000) hR (by omega))
            have hRl : R.length ≤ 40 := hR.1
            clear ho hR
            replace HB := Lib.hid (HB.out.trans (hb.mono HB.out.size))
            clear hb J
            have J := Lib.hid (implJoinChunks _ _ R t w11 (by omega) (HRS.out.bound (by omega)) HR.out (HT.out.below HB.out) (HM.out.below HB.out).1)
            go_wp2_with fail
            refine (J.out).mono ?_
            rintro e w12 ⟨rfl, hb⟩
            replace HR := Lib.hid (HR.out.later hb)
            replace HB := Lib.hid (HB.out.trans (hb.mono HB.out.size))
            clear hb J
            have J := Lib.hid (specJoinChunks _ _ R t w12 (by omega) (HRS.out.bound (by omega)) HR.out)
            go_wp2_with fail
            refine (J.out).mono ?_
            rintro e w13 ⟨rfl, hb⟩
            replace HR := Lib.hid (HR.out.later hb)
            replace HB := Lib.hid (HB.out.trans (hb.mono HB.out.size))
            clear hb J
            have j1 := implMissingChunk _ _ R t w13 (by omega) (HRS.out.bound (by omega)) HR.out
            have j2 := fun W (hw : Below w13.heap.size w13 W) => specMissingChunk _ _ R t W (by omega) (HRS.out.bound (by omega)) (HR.out.later hw)
            generalize missC R t = q at *
            generalize joinOk R t = f at *
            obtain ⟨U, hU⟩ : ∃ U : ByteArray, U = ⟨(joinS R t).toArray⟩ := ⟨_, rfl⟩
            rw [← hU]
            clear hU
            have tf : (f == f) = true := by cases f <;> rfl
            have tu : (U.toList == U.toList) = true := tl_eq U
            have tq : (q == q) = true := by simp
            have J1 := Lib.hid j1
            have J2 := Lib.hid j2
            clear j1 j2
            go_wp2_with fail
            refine (J1.out).mono ?_
            rintro e w14 ⟨rfl, hb1⟩
            have J3 := Lib.hid (J2.out _ hb1)
            go_wp2_with fail
            refine (J3.out).mono ?_
            rintro e w15 ⟨rfl, hb2⟩
            have HZ := Lib.hid ((HB.out.trans (hb1.mono HB.out.size)).trans (hb2.mono (Nat.le_trans HB.out.size hb1.size)))
            clear hb1 hb2 J1 J2 J3
            go_wp2_with fail
            go_ret
            exact ⟨rfl, HZ.out⟩
end Go.Proofs.YtpdpejlcilnafaaGreatDoor.fnChunks
namespace Go.Proofs.YtpdpejlcilnafaaGreatDoor.fnChunks
open Go.ChangeShapes Go.WideShapes Go.ChangeAt Go.RowKit
open Go.ChangeMaps (open_string shut_string)
set_option linter.unusedVariables false

set_option maxRecDepth 100000 in
theorem contract (H : Type) (enc : TypeId × Value → H) (W : World) (base : Nat) (args : Array Value) (ds gs : List (DataW H)) (before : List MemPlace)
    (hval0 : ∀ (j : Nat) t v, Tryz.f4.params[j]? = some t → args[j]? = some v → Value.okWide Tryz.prog W .any base t v)
    (hW : DataW.Whole enc Tryz.prog Tryz.f4.params.toList Rows.fnChunksSpec.vars false W args.toList ds gs before) (hL : laidMetH Tryz.prog Rows.fnChunksRow.laid W) (hS : W.ShapedOpen Tryz.prog) :
    Calls Tryz.prog 4 args W fun e W' => ∃ v, e = .returned v ∧ Rows.fnChunksSpec.post enc Tryz.prog Tryz.f4 false true false false W args v W' := by
  have hT : kit.Tab W := kit.tab_of_laid (by kernel_rfl) hL
  have hval : ∀ (j : Nat) t v, Tryz.f4.params[j]? = some t → args[j]? = some v → Value.okWide Tryz.prog W .any base t v := hval0
  have hW' := hW
  obtain ⟨p, q, hA0, hV, rfl, hfz, hnd⟩ := hW
  have hA : DataW.TrodAll enc Tryz.prog W 0 (fun _ => true) true Tryz.f4.params.toList args.toList ds p := hA0
  rw [Tryz.params4] at hA hval
  obtain ⟨v0, vs0, d0, ds0, p0, q0, hargs, rfl, rfl, h0, r0⟩ := trodAll_cons hA
  obtain ⟨rfl, rfl, rfl⟩ := trodAll_nil r0
  obtain rfl : args = #[v0] := by cases args; simp_all
  obtain ⟨g1, g2, g3, rfl⟩ := kit.trodVars_three hV
  obtain ⟨a0, len0, cap0, rfl⟩ := okWide_slice Tryz.underlying22 (hval 0 22 v0 rfl rfl)
  have k0 := h0
  have lt0 : ∀ x ∈ p0, x.block < W.heap.size := by obtain ⟨m, hm⟩ := k0; exact DataW.trod_lt m _ _ _ hm
  obtain ⟨z0, w0⟩ : ∃ zs, kit.IsRow .u8 W a0 len0 cap0 zs := by
    obtain ⟨fuel, hf⟩ := h0
    rcases open_ints Tryz.underlying22 Tryz.underlying5 (by kernel_rfl) hf with ⟨hcs, _⟩ | ⟨x, l, c, zs, hcs, _, hl, hm, hz, _, hcell, hwz⟩
    · simp [Value.cells] at hcs
      obtain ⟨rfl, rfl, rfl⟩ := hcs
      exact ⟨[], .inl ⟨rfl, rfl, rfl, rfl⟩⟩
    · simp [Value.cells] at hcs
      obtain ⟨rfl, rfl, rfl⟩ := hcs
      exact ⟨zs, .inr ⟨_, rfl, hl, hm, by simpa using hz, hcell, hwz⟩⟩
  clear hA0 hval0
  refine (walk a0 len0 cap0 z0 W w0 hT ⟨kit.mx_of_shape hS, kit.sen_of_laid (by kernel_rfl) (by kernel_rfl) hL⟩).mono fun e W' ⟨he, bel⟩ => ?_
  subst he
  exact ⟨_, rfl, _, _, _, [], _, _, hW', trodAll_mk1 (shut_bool Tryz.underlying4 _), (trodAll_cons_mk (Below.trod kit.laidOut (by kernel_rfl) (of_decide_eq_true (by kernel_rfl)) k0 bel lt0) trodAll_mk0), Below.trodVars kit.laidOut bel (by kernel_rfl) hV, bel.frame _, fun h => by cases h⟩

noncomputable def laidWorld (os : Os) : World :=
  { World.holding Tryz.prog os ⟨kit.senObjs, #[], []⟩ with heap := kit.laidSen (kit.laidCells (kit.laidCells (kit.laidCells (World.holding Tryz.prog os ⟨kit.senObjs, #[], []⟩).heap 7 Rows.laid_math_bits_deBruijn32tab) 8 Rows.laid_math_bits_deBruijn64tab) 4 Rows.laid_internal_strconv_uint64pow10) }
theorem laid_met (os : Os) : laidMet Tryz.prog Rows.fnChunksRow.laid ((laidWorld os).forCall (fun _ _ => 0) ⟨#[], #[.slice none 0 0], []⟩).memory :=
  laidMet_of_run' 8 (by kernel_rfl) (by kernel_rfl)
theorem reads (os : Os) {H : Type} (enc : TypeId × Value → H) : (DataW.whole enc Tryz.prog ((laidWorld os).forCall (fun _ _ => 0) ⟨#[], #[.slice none 0 0], []⟩).memory Tryz.f4.params.toList Rows.fnChunksSpec.vars false (#[.slice none 0 0] : Array Value).toList 8).isSome = true :=
  by kernel_rfl
set_option maxRecDepth 100000 in
theorem lifted (os : Os) (started : os.Started) (H : Type) (enc : TypeId × Value → H) (F : Stop.Interp) :
    ReturnsInHanded {} Tryz.checked os 4 .any ((OpenSpec.ofChange Rows.fnChunksSpec).preRow enc Tryz.prog Tryz.f4 Rows.fnChunksRow.domain false Rows.fnChunksRow.laid) (((OpenSpec.ofChange Rows.fnChunksSpec).at F).post enc Tryz.prog Tryz.f4 false true false false) := by
  obtain ⟨x, hx⟩ := Option.isSome_iff_exists.1 (reads os enc)
  refine returnsInHanded_of_row (C := Tryz.checked) (s := OpenSpec.ofChange Rows.fnChunksSpec) kit.own started (by kernel_rfl) Tryz.func4
    (witness_row_at (enc := enc) (C := Tryz.checked) false (laidWorld os) #[.slice none 0 0] rfl (by kernel_rfl) (by kernel_rfl) (by kernel_rfl)
      (OpenSpec.preRow_of_cond 8 hx (by kernel_rfl) (fun k hk => by cases hk) (by kernel_rfl) (laid_met os))) ?_
  intro W base args ds gs before hval hW _ _ _ hL hS _
  exact contract H enc W base args ds gs before hval hW hL hS
theorem said : Rows.FnChunksSaid :=
  OpenClaim.holds_of_cond 4 Tryz.f4 rfl rfl rfl rfl rfl rfl rfl ⟨rfl, rfl, rfl, rfl, rfl⟩ rfl rfl rfl rfl rfl (by kernel_rfl) Tryz.func4 (by kernel_rfl)
    (of_decide_eq_true (by kernel_rfl)) (by unfold Func.isWrapper; first | (rw [if_pos (by decide +kernel)]; kernel_rfl) | (rw [if_neg (by decide +kernel)]; exact ⟨rfl, rfl⟩))
    (fun os started H enc _ F => by rw [OpenClaim.pre_eq_preRow]; exact lifted os started H enc F)
theorem plain (f : FuncId) (fn : Func) (hf : Tryz.pinned.checked.prog.funcNamed "loop.example/g01926/laws.FnChunks" = some f) (hfn : Tryz.pinned.checked.prog.funcs[f]? = some fn) :
    true = Tryz.pinned.checked.prog.looks [] ∧ ∀ (j : Nat) t, fn.params[j]? = some t → Tryz.pinned.checked.prog.wantsStandIn t = false := by
  obtain rfl : f = 4 := Option.some.inj ((show Tryz.prog.funcNamed "loop.example/g01926/laws.FnChunks" = some 4 by kernel_rfl).symm.trans hf) |>.symm
  obtain rfl : fn = Tryz.f4 := (Option.some.inj (Tryz.func4.symm.trans hfn)).symm
  refine ⟨by kernel_rfl, fun j t ht => ?_⟩
  rw [Tryz.params4] at ht
  have hm := Array.mem_of_getElem? ht
  have hall : ∀ t ∈ (#[22] : Array TypeId), Tryz.prog.wantsStandIn t = false := by
    intro t ht
    simp only [List.mem_toArray, List.mem_cons, List.not_mem_nil, or_false] at ht
    subst ht; exact (show Tryz.prog.wantsStandIn 22 = false by kernel_rfl)
  exact hall t hm
theorem proved : Rows.FnChunksCardSaid :=
  Claim7.holds_tied_plain_at .later [] _ _ _ _ said (fun _ h => by cases h) (by kernel_rfl) (fun _ h => by cases h) fnChunks_row_tie rfl ⟨rfl, rfl⟩ (by kernel_rfl) rfl plain (by kernel_rfl)
end Go.Proofs.YtpdpejlcilnafaaGreatDoor.fnChunks
