/-
  The law of configurations, walked: for every code.
-/
import Derived.Test.YtmojigimlhjphaaS8Impl
import Derived.Test.YtmojigimlhjphaaS8Spec
import Derived.Test.YtmojigimlhjphaaS8Draw
import Derived.Test.YtmojigimlhjphaaInvV
import Derived.Test.YtmojigimlhjphaaBig
import Derived.Deep.DeepCutAuto
import Derived.Deep.RegionWith
namespace Go.Proofs.Ytmojigimlhjphaa.fnConfigs
open Go.ChangeShapes Go.WideShapes Go.ChangeAt Go.RowKit
open Go.ChangeMaps (open_string shut_string)
open kit
set_option linter.unusedVariables false
set_option linter.unusedSimpArgs false

structure isI (N : Nat) (L : List Int) (v : Value) (w : World) : Prop where
  h : OwnI N w v L
theorem isI_mono (N : Nat) (L : List Int) : Mono (isI N L) := fun _ _ _ h hb => ⟨OwnI.later h.h hb⟩
set_option maxRecDepth 100000 in
theorem lawsHas_any (a : Option Addr) (c : Nat) (l : List Int) (x : Int) (w : World) (hl : l.length ≤ 4194304) (ha : At w a l) :
    Calls Try.prog 36 #[.slice a l.length c, .int .i64 x] w fun e w' => e = .returned (.bool (decide (x ∈ l))) ∧ w = w' := by
  have HA := Lib.hid ha
  clear ha
  go_enter Try.func36, Try.ntmps36
  go_wp2_with fail
  go_loop [5] (fun i => ∃ k : Nat, k ≤ l.length ∧ i = .int .i64 k ∧ Hid (x ∉ l.take k)) (fun i => l.length - (intOf i).toNat)
  case atStart => exact ⟨0, Nat.zero_le _, rfl, Lib.hid (by simp)⟩
  case round =>
    obtain ⟨k, hk, rfl, HE⟩ := hrel
    by_cases hlt : k < l.length
    · obtain ⟨p, rfl, _, hc⟩ := HA.out k hlt
      have hget : l.getD k 0 = l[k] := by simp [List.getD, hlt]
      by_cases hz : l.getD k 0 = x
      · have HF := Lib.hid (show x ∈ l by rw [← hz, hget]; exact List.getElem_mem hlt)
        rw [hz] at hc
        clear hz hget
        go_wp2_with fail
        go_ret
        exact ⟨by rw [decide_eq_true HF.out]; rfl, rfl⟩
      · have HF := Lib.hid (show x ∉ l.take (k + 1) from by
          rw [take_snocI l k hlt, List.mem_append]
          intro h
          rcases h with h | h
          · exact HE.out h
          · exact hz (List.mem_singleton.1 h).symm)
        generalize l.getD k 0 = z at *
        have g : (z == x) = false := by rw [beq_eq_false_iff_ne]; exact hz
        clear hz hget
        go_wp2_with fail
        go_round
        case rel => exact ⟨k + 1, by omega, by go_num, HF⟩
        case measure => simp [intOf]; omega
    · have HF := Lib.hid (show x ∉ l by have h := HE.out; rw [List.take_of_length_le (by omega)] at h; exact h)
      go_wp2_with fail
      go_ret
      exact ⟨by rw [decide_eq_false HF.out]; rfl, rfl⟩
set_option maxRecDepth 100000 in
set_option maxHeartbeats 16000000 in
theorem walk (a0 : Option Addr) (len0 cap0 : Nat) (z0 : List Int) (w : World) (w0 : IsRow .u8 w a0 len0 cap0 z0) :
    Calls Try.prog 4 #[.slice a0 len0 cap0] w fun e w' => e = .returned (.bool true) ∧ Below w.heap.size w w' := by
  have hl : len0 ≤ 9223372036854775807 := by
    rcases w0 with ⟨_, h, _⟩ | ⟨_, _, h1, h2, _⟩
    · omega
    · unfold maxLen at h2; omega
  have hcode := Lib.hid (code_of_row w0)
  clear w0
  by_cases hbig : 1048576 < len0
  · have CB := Lib.hid (big_yes a0 len0 cap0 w hbig hl)
    clear hbig
    go_enter Try.func4, Try.ntmps4
    go_wp2_with fail
    refine (CB.out).mono ?_
    rintro e w1 ⟨rfl, rfl⟩
    go_wp2_with fail
    go_ret
    exact ⟨rfl, Below.refl _ _⟩
  · have CB := Lib.hid (big_no a0 len0 cap0 w hbig)
    have CD := Lib.hid (drawRoleOf a0 len0 cap0 z0 w hcode.out)
    clear hbig
    go_enter Try.func4, Try.ntmps4
    go_wp2_with fail
    refine (CB.out).mono ?_
    rintro e w1 ⟨rfl, rfl⟩
    go_wp2_with fail
    refine (CD.out).mono ?_
    rintro e w2 ⟨x, y, u1, u2, R1, R2, i, rfl, hl1, hl2, ho1, ho2, hb2⟩
    obtain ⟨a1, c1, rfl⟩ := ho1.shape
    obtain ⟨a2, c2, rfl⟩ := ho2.shape
    have hbA := (Below.refl w2.heap.size w2).alloc (Nat.le_refl _) (.cells #[.int .i64 x, .int .i64 y, .slice a1 R1.length c1, .slice a2 R2.length c2] 34)
    obtain ⟨w3, hw3⟩ : ∃ q, q = w2.alloc (.cells #[.int .i64 x, .int .i64 y, .slice a1 R1.length c1, .slice a2 R2.length c2] 34) := ⟨_, rfl⟩
    obtain ⟨p, hp'⟩ : ∃ q, q = w2.heap.size := ⟨_, rfl⟩
    have HX := Lib.hid (show BoxC w3 p 34 #[.int .i64 x, .int .i64 y, .slice a1 R1.length c1, .slice a2 R2.length c2] by rw [hw3, hp']; exact BoxC.new _ _ _)
    have HO1 := Lib.hid (show OwnI w.heap.size w3 _ R1 by rw [hw3]; exact ho1.later hbA)
    have HO2 := Lib.hid (show OwnI w.heap.size w3 _ R2 by rw [hw3]; exact ho2.later hbA)
    have HB := Lib.hid (show Below w.heap.size w w3 by rw [hw3]; exact hb2.trans (hbA.mono hb2.size))
    have HW := Lib.hid hw3
    have HP := Lib.hid hp'
    have HMR := Lib.hid (mem_role x y R1 R2 i)
    have HPR := Lib.hid (fun h => role_prim (x := x) (y := y) (L1 := R1) (L2 := R2) h)
    clear CB CD ho1 ho2 hb2 hbA hw3 hp'
    have j1 := implRoleOf x y _ _ _ _ R1 R2 i w3 (by omega) (by omega) HO1.out HO2.out
    have jr := fun W h1 h2 => specRoleOf x y w.heap.size w.heap.size (.slice a1 R1.length c1) (.slice a2 R2.length c2) R1 R2 i W (by omega) (by omega) h1 h2
    have jm := fun W h1 h2 => specMembersOf x y w.heap.size w.heap.size (.slice a1 R1.length c1) (.slice a2 R2.length c2) R1 R2 W (by omega) (by omega) h1 h2
    have jv := fun W h1 h2 => implIsValidConfig x y w.heap.size w.heap.size (.slice a1 R1.length c1) (.slice a2 R2.length c2) R1 R2 W (by omega) (by omega) h1 h2
    have jw := fun W h1 h2 => specIsValidConfig x y w.heap.size w.heap.size (.slice a1 R1.length c1) (.slice a2 R2.length c2) R1 R2 W (by omega) (by omega) h1 h2
    have hlm := memC_len x y R1 R2 (by omega) (by omega)
    have JP := Lib.hid (fun W h1 h2 => implRoleOf x y w.heap.size w.heap.size (.slice a1 R1.length c1) (.slice a2 R2.length c2) R1 R2 y W (by omega) (by omega) h1 h2)
    have JMI := Lib.hid (fun W h1 h2 => implMembersOf x y w.heap.size w.heap.size (.slice a1 R1.length c1) (.slice a2 R2.length c2) R1 R2 W (by omega) (by omega) h1 h2)
    generalize hro : roleC x y R1 R2 i = ro at *
    generalize hM : memC x y R1 R2 = M at *
    generalize hok : cfgOk x y R1 R2 = ok at *
    have HRO := Lib.hid hro
    have HOK := Lib.hid hok
    have J1 := Lib.hid j1
    have JR := jr
    have JM := jm
    have JV := jv
    have JW := jw
    clear hro hM hok j1 jr jm jv jw
    have k0 := HX.out.c 0 rfl
    have k1 := HX.out.c 1 rfl
    have k2 := HX.out.c 2 rfl
    have k3 := HX.out.c 3 rfl
    go_wp2_with fail
    rw [← HW.out, ← HP.out]
    clear HW HP
    go_wp2_with fail
    refine J1.out.mono ?_
    rintro e w4 ⟨rfl, hb⟩
    replace HX := Lib.hid (HX.out.later hb)
    replace HO1 := Lib.hid (HO1.out.later hb)
    replace HO2 := Lib.hid (HO2.out.later hb)
    replace HB := Lib.hid (HB.out.trans (hb.mono HB.out.size))
    clear hb k0 k1 k2 k3
    have k0 := HX.out.c 0 rfl
    have k1 := HX.out.c 1 rfl
    have k2 := HX.out.c 2 rfl
    have k3 := HX.out.c 3 rfl
    clear J1
    go_wp2_with fail
    refine (JMI.out _ HO1.out HO2.out).mono ?_
    rintro e w5 ⟨vm, rfl, hom, hb⟩
    obtain ⟨am, cm, rfl⟩ := hom.shape
    have HOM := Lib.hid hom
    clear hom JMI
    replace HX := Lib.hid (HX.out.later hb)
    replace HO1 := Lib.hid (HO1.out.later hb)
    replace HO2 := Lib.hid (HO2.out.later hb)
    replace HB := Lib.hid (HB.out.trans (hb.mono HB.out.size))
    clear hb k0 k1 k2 k3
    have k0 := HX.out.c 0 rfl
    have k1 := HX.out.c 1 rfl
    have k2 := HX.out.c 2 rfl
    have k3 := HX.out.c 3 rfl
    go_wp2_with fail
    obtain ⟨wk, rfl⟩ : ∃ q, q = w5 := ⟨_, rfl⟩
    have hp := HX.out.lt
    go_upto_region 6 with (fail)
    go_cut [44] (fun b wx => b = .bool false ∧ Below wk.heap.size wk wx)
    case first =>
      refine region_inv (m := 26) [19, 20, 21, 22, 23, 24, 25, 26, 27, 28, 29, 30, 31, 32, 33, 34, 35, 36, 37, 38, 39, 40, 41, 42, 43, 44] [] (Fs [isV (.int .i64 ro), isV (.agg #[.int .i64 x, .int .i64 y, .slice a1 R1.length c1, .slice a2 R2.length c2]), isV (.int .i64 i), isV (.int .i64 ro), isV (.bool false), isV (.bool false), isV (.slice am M.length cm), isV (.agg #[.int .i64 x, .int .i64 y, .slice a1 R1.length c1, .slice a2 R2.length c2]), isI (wk.heap.size) (M), isV (.bool true), isV (.bool false), isV (.bool false), isV (.bool false), isV (.agg #[.int .i64 x, .int .i64 y, .slice a1 R1.length c1, .slice a2 R2.length c2]), isV (.bool ok), isV (.agg #[.int .i64 x, .int .i64 y, .slice a1 R1.length c1, .slice a2 R2.length c2]), isV (.bool ok), isV (.bool false), isV (.bool false), isV (.bool false), isV (.int .i64 ro), isV (kit.str (kit.roleN ro)), isV (.int .i64 ro), isV (kit.str (kit.roleN ro)), isV (.bool false), isV (.bool false)]) (by kernel_rfl) (by decide) rfl (by decide) (by kernel_rfl) (by kernel_rfl) (by kernel_rfl) (fun _ _ _ _ _ h => h) (Fs_mono ⟨isV_mono _, isV_mono _, isV_mono _, isV_mono _, isV_mono _, isV_mono _, isV_mono _, isV_mono _, isI_mono _ _, isV_mono _, isV_mono _, isV_mono _, isV_mono _, isV_mono _, isV_mono _, isV_mono _, isV_mono _, isV_mono _, isV_mono _, isV_mono _, isV_mono _, isV_mono _, isV_mono _, isV_mono _, isV_mono _, isV_mono _, trivial⟩) ?step ?float ?tail
      case float =>
        intro f hf
        cases hf
      case step =>
        intro i hi vs wq hBq hd
        by_cases h25 : i = 25
        · subst h25
          have e19' : vs 19 = .bool false := hd 19 (List.contains_iff_mem.1 (by kernel_rfl))
          have e24' : vs 24 = .bool false := hd 24 (List.contains_iff_mem.1 (by kernel_rfl))
          refine wpOp_step (o := _) rfl (fun K' hK => ?_)
          have HK := Lib.hid hK
          clear hK
          simp only [lay, Act.put, List.setIfInBounds_toArray, List.set_cons_zero, List.set_cons_succ, List.getD_cons_zero, List.getD_cons_succ, id_eq]
          rw [e19', e24']
          go_simp
          refine HK.out _ _ ⟨_, ?_, Below.refl _ _, rfl⟩
          simp only [lay, Act.put, List.setIfInBounds_toArray, List.set_cons_zero, List.set_cons_succ, List.getD_cons_zero, List.getD_cons_succ, id_eq]
          rw [e19', e24']
        replace hi : i < 25 := by omega
        clear h25
        by_cases h24 : i = 24
        · subst h24
          have e19' : vs 19 = .bool false := hd 19 (List.contains_iff_mem.1 (by kernel_rfl))
          have e21' : vs 21 = kit.str (kit.roleN ro) := hd 21 (List.contains_iff_mem.1 (by kernel_rfl))
          have e23' : vs 23 = kit.str (kit.roleN ro) := hd 23 (List.contains_iff_mem.1 (by kernel_rfl))
          simp only [lay, Act.put, List.setIfInBounds_toArray, List.set_cons_zero, List.set_cons_succ, List.getD_cons_zero, List.getD_cons_succ, id_eq]
          rw [e19', e21', e23']
          refine wpOp_stepG (o := _) rfl rfl rfl rfl rfl (fun K' hK => ?_)
          have HK := Lib.hid hK
          clear hK
          go_simp
          refine HK.out _ _ ⟨_, ?_, Below.refl _ _, rfl⟩
          simp only [lay, Act.put, List.setIfInBounds_toArray, List.set_cons_zero, List.set_cons_succ, List.getD_cons_zero, List.getD_cons_succ, id_eq]
        replace hi : i < 24 := by omega
        clear h24
        by_cases h23 : i = 23
        · subst h23
          have e19' : vs 19 = .bool false := hd 19 (List.contains_iff_mem.1 (by kernel_rfl))
          have e22' : vs 22 = .int .i64 ro := hd 22 (List.contains_iff_mem.1 (by kernel_rfl))
          simp only [lay, Act.put, List.setIfInBounds_toArray, List.set_cons_zero, List.set_cons_succ, List.getD_cons_zero, List.getD_cons_succ, id_eq]
          rw [e19', e22']
          refine wpOp_stepG (o := _) rfl rfl rfl rfl rfl (fun K' hK => ?_)
          have HK := Lib.hid hK
          clear hK
          go_simp
          go_at_call 35
          refine (kit.specRoleName ro wq).mono ?_
          rintro e w2 ⟨rfl, hb⟩
          refine HK.out _ _ ⟨_, ?_, hb, rfl⟩
          simp only [lay, Act.put, List.setIfInBounds_toArray, List.set_cons_zero, List.set_cons_succ, List.getD_cons_zero, List.getD_cons_succ, id_eq]
        replace hi : i < 23 := by omega
        clear h23
        by_cases h22 : i = 22
        · subst h22
          have e19' : vs 19 = .bool false := hd 19 (List.contains_iff_mem.1 (by kernel_rfl))
          simp only [lay, Act.put, List.setIfInBounds_toArray, List.set_cons_zero, List.set_cons_succ, List.getD_cons_zero, List.getD_cons_succ, id_eq]
          rw [e19']
          refine wpOp_stepG (o := _) rfl rfl rfl rfl rfl (fun K' hK => ?_)
          have HK := Lib.hid hK
          clear hK
          go_simp
          refine HK.out _ _ ⟨_, ?_, Below.refl _ _, rfl⟩
          simp only [lay, Act.put, List.setIfInBounds_toArray, List.set_cons_zero, List.set_cons_succ, List.getD_cons_zero, List.getD_cons_succ, id_eq]
        replace hi : i < 22 := by omega
        clear h22
        by_cases h21 : i = 21
        · subst h21
          have e19' : vs 19 = .bool false := hd 19 (List.contains_iff_mem.1 (by kernel_rfl))
          have e20' : vs 20 = .int .i64 ro := hd 20 (List.contains_iff_mem.1 (by kernel_rfl))
          simp only [lay, Act.put, List.setIfInBounds_toArray, List.set_cons_zero, List.set_cons_succ, List.getD_cons_zero, List.getD_cons_succ, id_eq]
          rw [e19', e20']
          refine wpOp_stepG (o := _) rfl rfl rfl rfl rfl (fun K' hK => ?_)
          have HK := Lib.hid hK
          clear hK
          go_simp
          go_at_call 34
          refine (kit.implRoleName ro wq).mono ?_
          rintro e w2 ⟨rfl, hb⟩
          refine HK.out _ _ ⟨_, ?_, hb, rfl⟩
          simp only [lay, Act.put, List.setIfInBounds_toArray, List.set_cons_zero, List.set_cons_succ, List.getD_cons_zero, List.getD_cons_succ, id_eq]
        replace hi : i < 21 := by omega
        clear h21
        by_cases h20 : i = 20
        · subst h20
          have e19' : vs 19 = .bool false := hd 19 (List.contains_iff_mem.1 (by kernel_rfl))
          simp only [lay, Act.put, List.setIfInBounds_toArray, List.set_cons_zero, List.set_cons_succ, List.getD_cons_zero, List.getD_cons_succ, id_eq]
          rw [e19']
          refine wpOp_stepG (o := _) rfl rfl rfl rfl rfl (fun K' hK => ?_)
          have HK := Lib.hid hK
          clear hK
          go_simp
          refine HK.out _ _ ⟨_, ?_, Below.refl _ _, rfl⟩
          simp only [lay, Act.put, List.setIfInBounds_toArray, List.set_cons_zero, List.set_cons_succ, List.getD_cons_zero, List.getD_cons_succ, id_eq]
        replace hi : i < 20 := by omega
        clear h20
        by_cases h19 : i = 19
        · subst h19
          have e18' : vs 18 = .bool false := hd 18 (List.contains_iff_mem.1 (by kernel_rfl))
          refine wpOp_step (o := _) rfl (fun K' hK => ?_)
          have HK := Lib.hid hK
          clear hK
          simp only [lay, Act.put, List.setIfInBounds_toArray, List.set_cons_zero, List.set_cons_succ, List.getD_cons_zero, List.getD_cons_succ, id_eq]
          rw [e18']
          go_simp
          refine HK.out _ _ ⟨_, ?_, Below.refl _ _, rfl⟩
          simp only [lay, Act.put, List.setIfInBounds_toArray, List.set_cons_zero, List.set_cons_succ, List.getD_cons_zero, List.getD_cons_succ, id_eq]
          rw [e18']
        replace hi : i < 19 := by omega
        clear h19
        by_cases h18 : i = 18
        · subst h18
          have e12' : vs 12 = .bool false := hd 12 (List.contains_iff_mem.1 (by kernel_rfl))
          have e17' : vs 17 = .bool false := hd 17 (List.contains_iff_mem.1 (by kernel_rfl))
          refine wpOp_step (o := _) rfl (fun K' hK => ?_)
          have HK := Lib.hid hK
          clear hK
          simp only [lay, Act.put, List.setIfInBounds_toArray, List.set_cons_zero, List.set_cons_succ, List.getD_cons_zero, List.getD_cons_succ, id_eq]
          rw [e12', e17']
          go_simp
          refine HK.out _ _ ⟨_, ?_, Below.refl _ _, rfl⟩
          simp only [lay, Act.put, List.setIfInBounds_toArray, List.set_cons_zero, List.set_cons_succ, List.getD_cons_zero, List.getD_cons_succ, id_eq]
          rw [e12', e17']
        replace hi : i < 18 := by omega
        clear h18
        by_cases h17 : i = 17
        · subst h17
          have e12' : vs 12 = .bool false := hd 12 (List.contains_iff_mem.1 (by kernel_rfl))
          have e14' : vs 14 = .bool ok := hd 14 (List.contains_iff_mem.1 (by kernel_rfl))
          have e16' : vs 16 = .bool ok := hd 16 (List.contains_iff_mem.1 (by kernel_rfl))
          simp only [lay, Act.put, List.setIfInBounds_toArray, List.set_cons_zero, List.set_cons_succ, List.getD_cons_zero, List.getD_cons_succ, id_eq]
          rw [e12', e14', e16']
          refine wpOp_stepG (o := _) rfl rfl rfl rfl rfl (fun K' hK => ?_)
          have HK := Lib.hid hK
          clear hK
          go_simp
          refine HK.out _ _ ⟨_, ?_, Below.refl _ _, rfl⟩
          simp only [lay, Act.put, List.setIfInBounds_toArray, List.set_cons_zero, List.set_cons_succ, List.getD_cons_zero, List.getD_cons_succ, id_eq]
        replace hi : i < 17 := by omega
        clear h17
        by_cases h16 : i = 16
        · subst h16
          have e12' : vs 12 = .bool false := hd 12 (List.contains_iff_mem.1 (by kernel_rfl))
          have e15' : vs 15 = .agg #[.int .i64 x, .int .i64 y, .slice a1 R1.length c1, .slice a2 R2.length c2] := hd 15 (List.contains_iff_mem.1 (by kernel_rfl))
          simp only [lay, Act.put, List.setIfInBounds_toArray, List.set_cons_zero, List.set_cons_succ, List.getD_cons_zero, List.getD_cons_succ, id_eq]
          rw [e12', e15']
          refine wpOp_stepG (o := _) rfl rfl rfl rfl rfl (fun K' hK => ?_)
          have HK := Lib.hid hK
          clear hK
          go_simp
          go_at_call 33
          refine (JW wq (HO1.out.later hBq) (HO2.out.later hBq)).mono ?_
          rintro e w2 ⟨rfl, hb⟩
          refine HK.out _ _ ⟨_, ?_, hb, rfl⟩
          simp only [lay, Act.put, List.setIfInBounds_toArray, List.set_cons_zero, List.set_cons_succ, List.getD_cons_zero, List.getD_cons_succ, id_eq]
        replace hi : i < 16 := by omega
        clear h16
        by_cases h15 : i = 15
        · subst h15
          have e12' : vs 12 = .bool false := hd 12 (List.contains_iff_mem.1 (by kernel_rfl))
          have z0 := (hBq.cell (p := ⟨p, 0, none⟩) hp).trans k0
          have z1 := (hBq.cell (p := ⟨p, 1, none⟩) hp).trans k1
          have z2 := (hBq.cell (p := ⟨p, 2, none⟩) hp).trans k2
          have z3 := (hBq.cell (p := ⟨p, 3, none⟩) hp).trans k3
          simp only [lay, Act.put, List.setIfInBounds_toArray, List.set_cons_zero, List.set_cons_succ, List.getD_cons_zero, List.getD_cons_succ, id_eq]
          rw [e12']
          refine wpOp_stepG (o := _) rfl rfl rfl rfl rfl (fun K' hK => ?_)
          have HK := Lib.hid hK
          clear hK
          go_simp
          refine HK.out _ _ ⟨_, ?_, Below.refl _ _, rfl⟩
          simp only [lay, Act.put, List.setIfInBounds_toArray, List.set_cons_zero, List.set_cons_succ, List.getD_cons_zero, List.getD_cons_succ, id_eq]
        replace hi : i < 15 := by omega
        clear h15
        by_cases h14 : i = 14
        · subst h14
          have e12' : vs 12 = .bool false := hd 12 (List.contains_iff_mem.1 (by kernel_rfl))
          have e13' : vs 13 = .agg #[.int .i64 x, .int .i64 y, .slice a1 R1.length c1, .slice a2 R2.length c2] := hd 13 (List.contains_iff_mem.1 (by kernel_rfl))
          simp only [lay, Act.put, List.setIfInBounds_toArray, List.set_cons_zero, List.set_cons_succ, List.getD_cons_zero, List.getD_cons_succ, id_eq]
          rw [e12', e13']
          refine wpOp_stepG (o := _) rfl rfl rfl rfl rfl (fun K' hK => ?_)
          have HK := Lib.hid hK
          clear hK
          go_simp
          go_at_call 32
          refine (JV wq (HO1.out.later hBq) (HO2.out.later hBq)).mono ?_
          rintro e w2 ⟨rfl, hb⟩
          refine HK.out _ _ ⟨_, ?_, hb, rfl⟩
          simp only [lay, Act.put, List.setIfInBounds_toArray, List.set_cons_zero, List.set_cons_succ, List.getD_cons_zero, List.getD_cons_succ, id_eq]
        replace hi : i < 14 := by omega
        clear h14
        by_cases h13 : i = 13
        · subst h13
          have e12' : vs 12 = .bool false := hd 12 (List.contains_iff_mem.1 (by kernel_rfl))
          have z0 := (hBq.cell (p := ⟨p, 0, none⟩) hp).trans k0
          have z1 := (hBq.cell (p := ⟨p, 1, none⟩) hp).trans k1
          have z2 := (hBq.cell (p := ⟨p, 2, none⟩) hp).trans k2
          have z3 := (hBq.cell (p := ⟨p, 3, none⟩) hp).trans k3
          simp only [lay, Act.put, List.setIfInBounds_toArray, List.set_cons_zero, List.set_cons_succ, List.getD_cons_zero, List.getD_cons_succ, id_eq]
          rw [e12']
          refine wpOp_stepG (o := _) rfl rfl rfl rfl rfl (fun K' hK => ?_)
          have HK := Lib.hid hK
          clear hK
          go_simp
          refine HK.out _ _ ⟨_, ?_, Below.refl _ _, rfl⟩
          simp only [lay, Act.put, List.setIfInBounds_toArray, List.set_cons_zero, List.set_cons_succ, List.getD_cons_zero, List.getD_cons_succ, id_eq]
        replace hi : i < 13 := by omega
        clear h13
        by_cases h12 : i = 12
        · subst h12
          have e11' : vs 11 = .bool false := hd 11 (List.contains_iff_mem.1 (by kernel_rfl))
          refine wpOp_step (o := _) rfl (fun K' hK => ?_)
          have HK := Lib.hid hK
          clear hK
          simp only [lay, Act.put, List.setIfInBounds_toArray, List.set_cons_zero, List.set_cons_succ, List.getD_cons_zero, List.getD_cons_succ, id_eq]
          rw [e11']
          go_simp
          refine HK.out _ _ ⟨_, ?_, Below.refl _ _, rfl⟩
          simp only [lay, Act.put, List.setIfInBounds_toArray, List.set_cons_zero, List.set_cons_succ, List.getD_cons_zero, List.getD_cons_succ, id_eq]
          rw [e11']
        replace hi : i < 12 := by omega
        clear h12
        by_cases h11 : i = 11
        · subst h11
          have e5' : vs 5 = .bool false := hd 5 (List.contains_iff_mem.1 (by kernel_rfl))
          have e10' : vs 10 = .bool false := hd 10 (List.contains_iff_mem.1 (by kernel_rfl))
          refine wpOp_step (o := _) rfl (fun K' hK => ?_)
          have HK := Lib.hid hK
          clear hK
          simp only [lay, Act.put, List.setIfInBounds_toArray, List.set_cons_zero, List.set_cons_succ, List.getD_cons_zero, List.getD_cons_succ, id_eq]
          rw [e5', e10']
          go_simp
          refine HK.out _ _ ⟨_, ?_, Below.refl _ _, rfl⟩
          simp only [lay, Act.put, List.setIfInBounds_toArray, List.set_cons_zero, List.set_cons_succ, List.getD_cons_zero, List.getD_cons_succ, id_eq]
          rw [e5', e10']
        replace hi : i < 11 := by omega
        clear h11
        by_cases h10 : i = 10
        · subst h10
          have e5' : vs 5 = .bool false := hd 5 (List.contains_iff_mem.1 (by kernel_rfl))
          have e9' : vs 9 = .bool true := hd 9 (List.contains_iff_mem.1 (by kernel_rfl))
          simp only [lay, Act.put, List.setIfInBounds_toArray, List.set_cons_zero, List.set_cons_succ, List.getD_cons_zero, List.getD_cons_succ, id_eq]
          rw [e5', e9']
          refine wpOp_stepG (o := _) rfl rfl rfl rfl rfl (fun K' hK => ?_)
          have HK := Lib.hid hK
          clear hK
          go_simp
          refine HK.out _ _ ⟨_, ?_, Below.refl _ _, rfl⟩
          simp only [lay, Act.put, List.setIfInBounds_toArray, List.set_cons_zero, List.set_cons_succ, List.getD_cons_zero, List.getD_cons_succ, id_eq]
        replace hi : i < 10 := by omega
        clear h10
        by_cases h9 : i = 9
        · subst h9
          have e5' : vs 5 = .bool false := hd 5 (List.contains_iff_mem.1 (by kernel_rfl))
          have e6' : vs 6 = .slice am M.length cm := hd 6 (List.contains_iff_mem.1 (by kernel_rfl))
          have hom' : isI (wk.heap.size) (M) (vs 8) wq := hd 8 (List.contains_iff_mem.1 (by kernel_rfl))
          have hom := hom'.h
          have hs8 := OwnI.shape hom
          cases hs8 with | intro y8 hs8 =>
          cases hs8 with | intro q8 e8' =>
          rw [e8'] at hom
          simp only [lay, Act.put, List.setIfInBounds_toArray, List.set_cons_zero, List.set_cons_succ, List.getD_cons_zero, List.getD_cons_succ, id_eq]
          rw [e5', e6', e8']
          refine wpOp_stepG (o := _) rfl rfl rfl rfl rfl (fun K' hK => ?_)
          have HK := Lib.hid hK
          clear hK
          have hom1 := HOM.out.later hBq
          have J9 := Lib.hid (kit.sameInts _ _ M _ _ M wq hlm hom1 hlm hom)
          rw [show decide (M = M) = true from decide_eq_true rfl] at J9
          clear hom hom1
          go_simp
          go_at_call 16
          (with_reducible refine (J9.out).mono ?_)
          rintro e w2 ⟨rfl, hb⟩
          refine HK.out _ _ ⟨_, ?_, hb, rfl⟩
          simp only [lay, Act.put, List.setIfInBounds_toArray, List.set_cons_zero, List.set_cons_succ, List.getD_cons_zero, List.getD_cons_succ, id_eq]
        replace hi : i < 9 := by omega
        clear h9
        by_cases h8 : i = 8
        · subst h8
          have e5' : vs 5 = .bool false := hd 5 (List.contains_iff_mem.1 (by kernel_rfl))
          have e7' : vs 7 = .agg #[.int .i64 x, .int .i64 y, .slice a1 R1.length c1, .slice a2 R2.length c2] := hd 7 (List.contains_iff_mem.1 (by kernel_rfl))
          simp only [lay, Act.put, List.setIfInBounds_toArray, List.set_cons_zero, List.set_cons_succ, List.getD_cons_zero, List.getD_cons_succ, id_eq]
          rw [e5', e7']
          refine wpOp_stepG (o := _) rfl rfl rfl rfl rfl (fun K' hK => ?_)
          have HK := Lib.hid hK
          clear hK
          go_simp
          go_at_call 31
          refine (JM wq (HO1.out.later hBq) (HO2.out.later hBq)).mono ?_
          rintro e w2 ⟨x1, rfl, h1, hb⟩
          refine HK.out _ _ ⟨_, ?_, hb, ⟨h1.mono hBq.size⟩⟩
          simp only [lay, Act.put, List.setIfInBounds_toArray, List.set_cons_zero, List.set_cons_succ, List.getD_cons_zero, List.getD_cons_succ, id_eq]
        replace hi : i < 8 := by omega
        clear h8
        by_cases h7 : i = 7
        · subst h7
          have e5' : vs 5 = .bool false := hd 5 (List.contains_iff_mem.1 (by kernel_rfl))
          have z0 := (hBq.cell (p := ⟨p, 0, none⟩) hp).trans k0
          have z1 := (hBq.cell (p := ⟨p, 1, none⟩) hp).trans k1
          have z2 := (hBq.cell (p := ⟨p, 2, none⟩) hp).trans k2
          have z3 := (hBq.cell (p := ⟨p, 3, none⟩) hp).trans k3
          simp only [lay, Act.put, List.setIfInBounds_toArray, List.set_cons_zero, List.set_cons_succ, List.getD_cons_zero, List.getD_cons_succ, id_eq]
          rw [e5']
          refine wpOp_stepG (o := _) rfl rfl rfl rfl rfl (fun K' hK => ?_)
          have HK := Lib.hid hK
          clear hK
          go_simp
          refine HK.out _ _ ⟨_, ?_, Below.refl _ _, rfl⟩
          simp only [lay, Act.put, List.setIfInBounds_toArray, List.set_cons_zero, List.set_cons_succ, List.getD_cons_zero, List.getD_cons_succ, id_eq]
        replace hi : i < 7 := by omega
        clear h7
        by_cases h6 : i = 6
        · subst h6
          have e5' : vs 5 = .bool false := hd 5 (List.contains_iff_mem.1 (by kernel_rfl))
          simp only [lay, Act.put, List.setIfInBounds_toArray, List.set_cons_zero, List.set_cons_succ, List.getD_cons_zero, List.getD_cons_succ, id_eq]
          rw [e5']
          refine wpOp_stepG (o := _) rfl rfl rfl rfl rfl (fun K' hK => ?_)
          have HK := Lib.hid hK
          clear hK
          go_simp
          refine HK.out _ _ ⟨_, ?_, Below.refl _ _, rfl⟩
          simp only [lay, Act.put, List.setIfInBounds_toArray, List.set_cons_zero, List.set_cons_succ, List.getD_cons_zero, List.getD_cons_succ, id_eq]
        replace hi : i < 6 := by omega
        clear h6
        by_cases h5 : i = 5
        · subst h5
          have e4' : vs 4 = .bool false := hd 4 (List.contains_iff_mem.1 (by kernel_rfl))
          refine wpOp_step (o := _) rfl (fun K' hK => ?_)
          have HK := Lib.hid hK
          clear hK
          simp only [lay, Act.put, List.setIfInBounds_toArray, List.set_cons_zero, List.set_cons_succ, List.getD_cons_zero, List.getD_cons_succ, id_eq]
          rw [e4']
          go_simp
          refine HK.out _ _ ⟨_, ?_, Below.refl _ _, rfl⟩
          simp only [lay, Act.put, List.setIfInBounds_toArray, List.set_cons_zero, List.set_cons_succ, List.getD_cons_zero, List.getD_cons_succ, id_eq]
          rw [e4']
        replace hi : i < 5 := by omega
        clear h5
        by_cases h4 : i = 4
        · subst h4
          have e0' : vs 0 = .int .i64 ro := hd 0 (List.contains_iff_mem.1 (by kernel_rfl))
          have e3' : vs 3 = .int .i64 ro := hd 3 (List.contains_iff_mem.1 (by kernel_rfl))
          refine wpOp_step (o := _) rfl (fun K' hK => ?_)
          have HK := Lib.hid hK
          clear hK
          simp only [lay, Act.put, List.setIfInBounds_toArray, List.set_cons_zero, List.set_cons_succ, List.getD_cons_zero, List.getD_cons_succ, id_eq]
          rw [e0', e3']
          go_simp
          refine HK.out _ _ ⟨_, ?_, Below.refl _ _, rfl⟩
          simp only [lay, Act.put, List.setIfInBounds_toArray, List.set_cons_zero, List.set_cons_succ, List.getD_cons_zero, List.getD_cons_succ, id_eq]
          rw [e0', e3']
        replace hi : i < 4 := by omega
        clear h4
        by_cases h3 : i = 3
        · subst h3
          have e1' : vs 1 = .agg #[.int .i64 x, .int .i64 y, .slice a1 R1.length c1, .slice a2 R2.length c2] := hd 1 (List.contains_iff_mem.1 (by kernel_rfl))
          have e2' : vs 2 = .int .i64 i := hd 2 (List.contains_iff_mem.1 (by kernel_rfl))
          refine wpOp_step (o := _) rfl (fun K' hK => ?_)
          have HK := Lib.hid hK
          clear hK
          simp only [lay, Act.put, List.setIfInBounds_toArray, List.set_cons_zero, List.set_cons_succ, List.getD_cons_zero, List.getD_cons_succ, id_eq]
          rw [e1', e2']
          go_simp
          go_at_call 30
          refine (JR wq (HO1.out.later hBq) (HO2.out.later hBq)).mono ?_
          rintro e w2 ⟨rfl, hb⟩
          refine HK.out _ _ ⟨_, ?_, hb, rfl⟩
          simp only [lay, Act.put, List.setIfInBounds_toArray, List.set_cons_zero, List.set_cons_succ, List.getD_cons_zero, List.getD_cons_succ, id_eq]
          rw [e1', e2']
        replace hi : i < 3 := by omega
        clear h3
        by_cases h2 : i = 2
        · subst h2
          refine wpOp_step (o := _) rfl (fun K' hK => ?_)
          have HK := Lib.hid hK
          clear hK
          simp only [lay, Act.put, List.setIfInBounds_toArray, List.set_cons_zero, List.set_cons_succ, List.getD_cons_zero, List.getD_cons_succ, id_eq]
          go_simp
          refine HK.out _ _ ⟨_, ?_, Below.refl _ _, rfl⟩
          simp only [lay, Act.put, List.setIfInBounds_toArray, List.set_cons_zero, List.set_cons_succ, List.getD_cons_zero, List.getD_cons_succ, id_eq]
        replace hi : i < 2 := by omega
        clear h2
        by_cases h1 : i = 1
        · subst h1
          have z0 := (hBq.cell (p := ⟨p, 0, none⟩) hp).trans k0
          have z1 := (hBq.cell (p := ⟨p, 1, none⟩) hp).trans k1
          have z2 := (hBq.cell (p := ⟨p, 2, none⟩) hp).trans k2
          have z3 := (hBq.cell (p := ⟨p, 3, none⟩) hp).trans k3
          refine wpOp_step (o := _) rfl (fun K' hK => ?_)
          have HK := Lib.hid hK
          clear hK
          simp only [lay, Act.put, List.setIfInBounds_toArray, List.set_cons_zero, List.set_cons_succ, List.getD_cons_zero, List.getD_cons_succ, id_eq]
          go_simp
          refine HK.out _ _ ⟨_, ?_, Below.refl _ _, rfl⟩
          simp only [lay, Act.put, List.setIfInBounds_toArray, List.set_cons_zero, List.set_cons_succ, List.getD_cons_zero, List.getD_cons_succ, id_eq]
        replace hi : i < 1 := by omega
        clear h1
        by_cases h0 : i = 0
        · subst h0
          refine wpOp_step (o := _) rfl (fun K' hK => ?_)
          have HK := Lib.hid hK
          clear hK
          simp only [lay, Act.put, List.setIfInBounds_toArray, List.set_cons_zero, List.set_cons_succ, List.getD_cons_zero, List.getD_cons_succ, id_eq]
          go_simp
          refine HK.out _ _ ⟨_, ?_, Below.refl _ _, rfl⟩
          simp only [lay, Act.put, List.setIfInBounds_toArray, List.set_cons_zero, List.set_cons_succ, List.getD_cons_zero, List.getD_cons_succ, id_eq]
        replace hi : i < 0 := by omega
        clear h0
        exact absurd hi (Nat.not_lt_zero _)
      case tail =>
        intro vs wq hBq hf
        have e25 : vs 25 = .bool false := hf 25 (by decide)
        simp only [lay, Act.put, List.setIfInBounds_toArray, List.set_cons_zero, List.set_cons_succ, List.getD_cons_zero, List.getD_cons_succ, id_eq]
        rw [e25]
        clear e25
        refine any_done (by kernel_rfl) ?_ _
        go_wp2_with fail
        go_meet
        exact ⟨rfl, hBq⟩
    case rest =>
      obtain ⟨rfl, hb⟩ := hcut
      replace HOM := Lib.hid (HOM.out.later hb)
      replace HX := Lib.hid (HX.out.later hb)
      replace HO1 := Lib.hid (HO1.out.later hb)
      replace HO2 := Lib.hid (HO2.out.later hb)
      replace HB := Lib.hid (HB.out.trans (hb.mono HB.out.size))
      clear hb k0 k1 k2 k3
      have k0 := HX.out.c 0 rfl
      have k1 := HX.out.c 1 rfl
      have k2 := HX.out.c 2 rfl
      have k3 := HX.out.c 3 rfl
      obtain ⟨am', cm', hsm, _, _, hatm, _⟩ := HOM.out.form
      injection hsm with e1 e2 e3
      subst e1 e3
      have JH := Lib.hid (lawsHas_any am cm M i wc hlm hatm)
      have HME := Lib.hid (show decide (i ∈ M) = (ro != 0) by rw [Bool.eq_iff_iff, decide_eq_true_iff, bne_iff_ne]; exact HMR.out)
      clear hatm hp e2
      go_wp2_with fail
      refine JH.out.mono ?_
      rintro e w6 ⟨rfl, rfl⟩
      rw [HME.out]
      have hbb : ((ro != 0) == (ro != 0)) = true := by simp
      clear JH
      go_wp2_with fail
      refine (JW _ HO1.out HO2.out).mono ?_
      rintro e w7 ⟨rfl, hb⟩
      replace HX := Lib.hid (HX.out.later hb)
      replace HO1 := Lib.hid (HO1.out.later hb)
      replace HO2 := Lib.hid (HO2.out.later hb)
      replace HB := Lib.hid (HB.out.trans (hb.mono HB.out.size))
      clear hb k0 k1 k2 k3
      have k0 := HX.out.c 0 rfl
      have k1 := HX.out.c 1 rfl
      have k2 := HX.out.c 2 rfl
      have k3 := HX.out.c 3 rfl
      cases ok with
      | false =>
        go_wp2_with fail
        go_ret
        exact ⟨rfl, HB.out⟩
      | true =>
        have j9 := JP.out _ HO1.out HO2.out
        rw [HPR.out (by simp)] at j9
        have J9 := Lib.hid j9
        clear j9 JP JW
        go_wp2_with fail
        refine J9.out.mono ?_
        rintro e w8 ⟨rfl, hb⟩
        replace HX := Lib.hid (HX.out.later hb)
        replace HO1 := Lib.hid (HO1.out.later hb)
        replace HO2 := Lib.hid (HO2.out.later hb)
        replace HB := Lib.hid (HB.out.trans (hb.mono HB.out.size))
        clear hb k0 k1 k2 k3
        have k0 := HX.out.c 0 rfl
        have k1 := HX.out.c 1 rfl
        have k2 := HX.out.c 2 rfl
        have k3 := HX.out.c 3 rfl
        go_wp2_with fail
        go_ret
        exact ⟨rfl, HB.out⟩
end Go.Proofs.Ytmojigimlhjphaa.fnConfigs
