/-
  Chapter 7: reading a chunk: what spec's l7Read returns.
-/
import Derived.Test.YtibpajlfcknegaaDoorS7Math
import Derived.Test.YtibpajlfcknegaaDoorS7Chunk
import Derived.Test.YtibpajlfcknegaaDoorS3Cut
import Derived.Test.YtibpajlfcknegaaDoorS3Plain
namespace Go.Proofs.YtibpajlfcknegaaDoor.kit
open Go.ChangeShapes Go.WideShapes Go.ChangeAt Go.RowKit
set_option linter.unusedVariables false

theorem at_get (s : ByteArray) (k : Nat) (h : k < s.size) : s.data.toList.drop k = s[k] :: s.data.toList.drop (k + 1) := by
  rw [List.drop_eq_getElem_cons (by rw [toL_len]; exact h)]
  rfl
theorem take_get (s : ByteArray) (k : Nat) (h : k < s.size) : s.data.toList.take (k + 1) = s.data.toList.take k ++ [s[k]] := by
  rw [List.take_succ_eq_append_getElem (by rw [toL_len]; exact h)]
  rfl
theorem mid_get (s : ByteArray) (m k : Nat) (h : k < s.size) (hm : m ≤ k) : (s.data.toList.drop m).take (k + 1 - m) = (s.data.toList.drop m).take (k - m) ++ [s[k]] := by
  rw [show k + 1 - m = (k - m) + 1 by omega]
  have hl : k - m < (s.data.toList.drop m).length := by rw [List.length_drop, toL_len]; omega
  rw [List.take_succ_eq_append_getElem hl]
  simp [List.getElem_drop, show m + (k - m) = k by omega]
  rfl
/-- the text parted at three places -/
theorem parted (s : ByteArray) {a b z : Nat} (ha : a < s.size) (hb : b < s.size) (hz : z < s.size) (h1 : a < b) (h2 : b < z) :
    s.data.toList = s.data.toList.take a ++ s[a] :: ((s.data.toList.drop (a + 1)).take (b - (a + 1)) ++ s[b] :: ((s.data.toList.drop (b + 1)).take (z - (b + 1)) ++ s[z] :: s.data.toList.drop (z + 1))) := by
  have e3 : (s.data.toList.drop (b + 1)).take (z - (b + 1)) ++ s[z] :: s.data.toList.drop (z + 1) = s.data.toList.drop (b + 1) := by
    rw [← at_get s z hz]
    have := List.take_append_drop (z - (b + 1)) (s.data.toList.drop (b + 1))
    rw [List.drop_drop, show b + 1 + (z - (b + 1)) = z by omega] at this
    exact this
  have e2 : (s.data.toList.drop (a + 1)).take (b - (a + 1)) ++ s[b] :: s.data.toList.drop (b + 1) = s.data.toList.drop (a + 1) := by
    rw [← at_get s b hb]
    have := List.take_append_drop (b - (a + 1)) (s.data.toList.drop (a + 1))
    rw [List.drop_drop, show a + 1 + (b - (a + 1)) = b by omega] at this
    exact this
  rw [e3, e2, ← at_get s a ha, List.take_append_drop]
theorem parted2 (s : ByteArray) {a b : Nat} (ha : a < s.size) (hb : b < s.size) (h1 : a < b) :
    s.data.toList = s.data.toList.take a ++ s[a] :: ((s.data.toList.drop (a + 1)).take (b - (a + 1)) ++ s[b] :: s.data.toList.drop (b + 1)) := by
  have e2 : (s.data.toList.drop (a + 1)).take (b - (a + 1)) ++ s[b] :: s.data.toList.drop (b + 1) = s.data.toList.drop (a + 1) := by
    rw [← at_get s b hb]
    have := List.take_append_drop (b - (a + 1)) (s.data.toList.drop (a + 1))
    rw [List.drop_drop, show a + 1 + (b - (a + 1)) = b by omega] at this
    exact this
  rw [e2, ← at_get s a ha, List.take_append_drop]
/-- what is read where the three places are known -/
theorem read_dec {s p t v x : List UInt8} (hs : s = p ++ 47 :: (t ++ 58 :: (v ++ 35 :: x))) (hp : (47 : UInt8) ∉ p) (ht : (58 : UInt8) ∉ t) (hx : (35 : UInt8) ∉ x) :
    (Reads s (numL p) (numL t) v → readC s = (numL p, numL t, v, true)) ∧ (¬ Reads s (numL p) (numL t) v → readC s = (0, 0, [], false)) := by
  refine ⟨readC_yes, fun h => readC_no fun i n d hr => h ?_⟩
  obtain ⟨rfl, rfl, rfl, _⟩ := reads_at hs hp ht hx hr
  exact hr
noncomputable abbrev rdT (s : List UInt8) : Value := .tuple #[.int .i64 (readC s).1, .int .i64 (readC s).2.1, str (readC s).2.2.1, .bool (readC s).2.2.2]
theorem numL_in (l : List UInt8) : -1 ≤ numL l ∧ numL l < 1000000000 := by
  unfold numL
  split
  · rename_i h
    simp only [Bool.and_eq_true, decide_eq_true_eq] at h
    refine ⟨by omega, ?_⟩
    have h1 := h.1
    unfold parN
    rw [if_pos h1]
    unfold parOk at h1
    have := (of_decide_eq_true h1).2
    omega
  · omega
set_option maxRecDepth 100000 in
set_option maxHeartbeats 8000000 in
theorem specRead (s : ByteArray) (w : World) (hs : s.size ≤ 1048576) :
    Calls Tryd.prog 40 #[.string s] w fun e w' => e = .returned (rdT s.data.toList) ∧ Below w.heap.size w w' := by
  have hsl := toL_len s
  have HSL := Lib.hid hsl
  clear hsl
  go_enter Tryd.func40, Tryd.ntmps40
  go_wp2_with fail
  go_loopw [6] (fun i wr => ∃ k : Nat, k ≤ s.size ∧ i = .int .i64 k ∧ Hid ((47 : UInt8) ∉ s.data.toList.take k) ∧ w = wr) (fun i _ => s.size - (intOf i).toNat)
  case atStart => exact ⟨0, Nat.zero_le _, rfl, Lib.hid (by simp), rfl⟩
  case round =>
    obtain ⟨k, hk, rfl, HN, rfl⟩ := hrel
    by_cases hlt : k < s.size
    · have hbk : s[k].toNat < 256 := s[k].toNat_lt
      by_cases hq : s[k] = 47
      · have g1 : ((s[k].toNat : Int) != 47) = false := by rw [hq]; rfl
        have HQ := Lib.hid hq
        clear hq
        go_wp2_with fail
        go_loopw [7] (fun i wr => ∃ m : Nat, k ≤ m ∧ m ≤ s.size ∧ i = .int .i64 m ∧ Hid ((58 : UInt8) ∉ (s.data.toList.drop k).take (m - k)) ∧ w = wr) (fun i _ => s.size - (intOf i).toNat)
        case atStart => exact ⟨k, Nat.le_refl _, hk, rfl, Lib.hid (by simp), rfl⟩
        case round =>
          obtain ⟨m, hkm, hm, rfl, HM, rfl⟩ := hrel
          by_cases hml : m < s.size
          · by_cases hq : s[m] = 58
            · have g2 : ((s[m].toNat : Int) != 58) = false := by rw [hq]; rfl
              have hkm2 : k < m := by
                rcases Nat.lt_or_ge k m with h | h
                · exact h
                · have e : k = m := by omega
                  subst e
                  rw [HQ.out] at hq
                  cases hq
              have HQ2 := Lib.hid hq
              have HU : Hid ((58 : UInt8) ∉ (s.data.toList.drop (k + 1)).take (m - (k + 1))) := Lib.hid (fun h => HM.out (by
                rw [at_get s k hlt, show m - k = (m - (k + 1)) + 1 by omega, List.take_succ_cons]
                exact List.mem_cons_of_mem _ h))
              clear hq
              go_wp2_with fail
              go_loopw [8] (fun i wr => ∃ z : Nat, m ≤ z ∧ z < s.size ∧ i = .int .i64 z ∧ Hid ((35 : UInt8) ∉ s.data.toList.drop (z + 1)) ∧ w = wr) (fun i _ => (intOf i).toNat)
              case atStart => exact ⟨s.size - 1, by omega, by omega, by congr 1; omega, Lib.hid (by rw [List.drop_eq_nil_of_le (by rw [HSL.out]; omega)]; simp), rfl⟩
              case round =>
                obtain ⟨z, hmz, hz, rfl, HZ, rfl⟩ := hrel
                by_cases hzm : m < z
                · have g3 : decide ((z : Int) > (m : Int)) = true := decide_eq_true (by omega)
                  by_cases hq : s[z] = 35
                  · have g4 : ((s[z].toNat : Int) != 35) = false := by rw [hq]; rfl
                    have HP := Lib.hid (parted s hlt hml hz hkm2 hzm)
                    rw [HQ.out, HQ2.out, hq] at HP
                    have HD := Lib.hid (read_dec HP.out HN.out HU.out HZ.out)
                    have hp1 : (s.extract 0 k).data.toList = s.data.toList.take k := by rw [extL]; simp
                    have hp2 : (s.extract (k + 1) m).data.toList = (s.data.toList.drop (k + 1)).take (m - (k + 1)) := extL _ _ _
                    have hp3 : (s.extract (m + 1) z).data.toList = (s.data.toList.drop (m + 1)).take (z - (m + 1)) := extL _ _ _
                    have j1 := fun W => numFrom (s.extract 0 k) W (by rw [ByteArray.size_extract]; omega)
                    have j2 := fun W => numFrom (s.extract (k + 1) m) W (by rw [ByteArray.size_extract]; omega)
                    have hi := numL_in (s.data.toList.take k)
                    have hn := numL_in ((s.data.toList.drop (k + 1)).take (m - (k + 1)))
                    have hzl : z = m + 1 ↔ (s.data.toList.drop (m + 1)).take (z - (m + 1)) = [] := by
                      constructor
                      · intro h; rw [h, Nat.sub_self]; rfl
                      · intro h
                        have h1 := congrArg List.length h
                        rw [List.length_take, List.length_drop, HSL.out] at h1
                        simp only [List.length_nil] at h1
                        omega
                    rw [hp1] at j1
                    rw [hp2] at j2
                    generalize numL (s.data.toList.take k) = ni at *
                    generalize numL ((s.data.toList.drop (k + 1)).take (m - (k + 1))) = nn at *
                    generalize (s.data.toList.drop (m + 1)).take (z - (m + 1)) = d at *
                    have J1 := Lib.hid j1
                    have J2 := Lib.hid j2
                    have HZL := Lib.hid hzl
                    have HP3 := Lib.hid hp3
                    have g5 : decide ((m : Int) ≥ (s.size : Int)) = false := decide_eq_false (by omega)
                    have g6 : decide ((z : Int) ≤ (m : Int)) = false := decide_eq_false (by omega)
                    clear hq j1 j2 hp1 hp2 hp3 HP hzl
                    go_wp2_with fail
                    refine (J1.out _).mono ?_
                    rintro e w1 ⟨rfl, hb1⟩
                    have HB1 := Lib.hid hb1
                    clear hb1
                    go_wp2_with fail
                    refine (J2.out _).mono ?_
                    rintro e w2 ⟨rfl, hb2⟩
                    have HB2 := Lib.hid (HB1.out.trans (hb2.mono HB1.out.size))
                    clear hb2 HB1
                    have I1 := Lib.hid (fun W => in_c nn 1 40 W)
                    have I2 := Lib.hid (fun W => in_c ni 0 (nn - 1) W)
                    by_cases c1 : 1 ≤ nn ∧ nn ≤ 40
                    · have t1 := Lib.hid (decide_eq_true c1)
                      by_cases c2 : 0 ≤ ni ∧ ni ≤ nn - 1
                      · have t2 := Lib.hid (decide_eq_true c2)
                        by_cases c5 : nn > 1
                        · have t5 : decide (nn > 1) = true := decide_eq_true c5
                          by_cases c6 : z = m + 1
                          · have HF := Lib.hid (HD.out.2 (fun h => by have h1 := h.1.2.2.2 (HZL.out.1 c6); omega))
                            have t6 : ((z : Int) == (m : Int) + 1) = true := by rw [beq_iff_eq]; omega
                            clear c1 c2 c5 c6
                            go_wp2_with fail
                            refine (I1.out _).mono ?_
                            rintro e w3 ⟨he, rfl⟩
                            rw [t1.out] at he
                            subst he
                            go_wp2_with fail
                            refine (I2.out _).mono ?_
                            rintro e w3 ⟨he, rfl⟩
                            rw [t2.out] at he
                            subst he
                            go_wp2_with fail
                            refine bodyPost_ret (v := .tuple #[.int .i64 0, .int .i64 0, str [], .bool false]) (by simp [results, Tryd.results40, go_sem]) rfl ?_
                            exact ⟨by unfold rdT; rw [HF.out], HB2.out⟩
                          · have t6 : ((z : Int) == (m : Int) + 1) = false := by rw [beq_eq_false_iff_ne]; omega
                            have c3 : d = [] → nn = 1 := fun h => absurd (HZL.out.2 h) c6
                            have jc := fun W => specChunk ni nn (s.extract (m + 1) z) W (by omega) (by omega) (by omega) (by omega) (by rw [ByteArray.size_extract]; omega)
                            rw [HP3.out] at jc
                            have JC := Lib.hid jc
                            clear jc
                            have HOK := Lib.hid (show okK ni nn d from ⟨c2.1, by omega, c1.2, c3⟩)
                            clear c1 c2 c3
                            go_wp2_with fail
                            refine (I1.out _).mono ?_
                            rintro e w3 ⟨he, rfl⟩
                            rw [t1.out] at he
                            subst he
                            go_wp2_with fail
                            refine (I2.out _).mono ?_
                            rintro e w3 ⟨he, rfl⟩
                            rw [t2.out] at he
                            subst he
                            go_wp2_with fail
                            refine (JC.out _).mono ?_
                            rintro e w5 ⟨rfl, hb5⟩
                            have HB5 := Lib.hid (HB2.out.trans (hb5.mono HB2.out.size))
                            clear hb5
                            by_cases c4 : chunkL ni nn d = s.data.toList
                            · have t4 : (chunkL ni nn d == s.toList) = true := by rw [beq_iff_eq, ByteArray.toList_eq]; exact c4
                              have HF := Lib.hid (HD.out.1 ⟨HOK.out, c4⟩)
                              have HX := Lib.hid (ext_mk HP3.out)
                              have k1 : (0 : Int) ≤ (m : Int) + 1 := by omega
                              have k2 : m + 1 ≤ z := by omega
                              have k3 : z ≤ s.size := by omega
                              clear c4
                              go_wp2_with fail
                              go_quiet (fail)
                              go_wp2_with fail
                              refine bodyPost_ret (v := .tuple #[.int .i64 ni, .int .i64 nn, .string (s.extract (m + 1) z), .bool true]) (by simp [results, Tryd.results40, go_sem]) rfl ?_
                              exact ⟨by unfold rdT; rw [HF.out, HX.out], (below_drewN HB5.out _)⟩
                            · have t4 : (chunkL ni nn d == s.toList) = false := by rw [beq_eq_false_iff_ne, ByteArray.toList_eq]; exact c4
                              have HF := Lib.hid (HD.out.2 (fun h => c4 h.2))
                              clear c4
                              go_wp2_with fail
                              refine bodyPost_ret (v := .tuple #[.int .i64 0, .int .i64 0, str [], .bool false]) (by simp [results, Tryd.results40, go_sem]) rfl ?_
                              exact ⟨by unfold rdT; rw [HF.out], HB5.out⟩
                        · have t5 : decide (nn > 1) = false := decide_eq_false c5
                          have c3 : d = [] → nn = 1 := fun _ => by omega
                          have jc := fun W => specChunk ni nn (s.extract (m + 1) z) W (by omega) (by omega) (by omega) (by omega) (by rw [ByteArray.size_extract]; omega)
                          rw [HP3.out] at jc
                          have JC := Lib.hid jc
                          clear jc
                          have HOK := Lib.hid (show okK ni nn d from ⟨c2.1, by omega, c1.2, c3⟩)
                          clear c1 c2 c3
                          go_wp2_with fail
                          refine (I1.out _).mono ?_
                          rintro e w3 ⟨he, rfl⟩
                          rw [t1.out] at he
                          subst he
                          go_wp2_with fail
                          refine (I2.out _).mono ?_
                          rintro e w3 ⟨he, rfl⟩
                          rw [t2.out] at he
                          subst he
                          go_wp2_with fail
                          refine (JC.out _).mono ?_
                          rintro e w5 ⟨rfl, hb5⟩
                          have HB5 := Lib.hid (HB2.out.trans (hb5.mono HB2.out.size))
                          clear hb5
                          by_cases c4 : chunkL ni nn d = s.data.toList
                          · have t4 : (chunkL ni nn d == s.toList) = true := by rw [beq_iff_eq, ByteArray.toList_eq]; exact c4
                            have HF := Lib.hid (HD.out.1 ⟨HOK.out, c4⟩)
                            have HX := Lib.hid (ext_mk HP3.out)
                            have k1 : (0 : Int) ≤ (m : Int) + 1 := by omega
                            have k2 : m + 1 ≤ z := by omega
                            have k3 : z ≤ s.size := by omega
                            clear c4
                            go_wp2_with fail
                            go_quiet (fail)
                            go_wp2_with fail
                            refine bodyPost_ret (v := .tuple #[.int .i64 ni, .int .i64 nn, .string (s.extract (m + 1) z), .bool true]) (by simp [results, Tryd.results40, go_sem]) rfl ?_
                            exact ⟨by unfold rdT; rw [HF.out, HX.out], (below_drewN HB5.out _)⟩
                          · have t4 : (chunkL ni nn d == s.toList) = false := by rw [beq_eq_false_iff_ne, ByteArray.toList_eq]; exact c4
                            have HF := Lib.hid (HD.out.2 (fun h => c4 h.2))
                            clear c4
                            go_wp2_with fail
                            refine bodyPost_ret (v := .tuple #[.int .i64 0, .int .i64 0, str [], .bool false]) (by simp [results, Tryd.results40, go_sem]) rfl ?_
                            exact ⟨by unfold rdT; rw [HF.out], HB5.out⟩
                      · have t2 := Lib.hid (decide_eq_false c2)
                        have HF := Lib.hid (HD.out.2 (fun h => c2 (by have := h.1; unfold okK at this; omega)))
                        clear c1 c2
                        go_wp2_with fail
                        refine (I1.out _).mono ?_
                        rintro e w3 ⟨he, rfl⟩
                        rw [t1.out] at he
                        subst he
                        go_wp2_with fail
                        refine (I2.out _).mono ?_
                        rintro e w3 ⟨he, rfl⟩
                        rw [t2.out] at he
                        subst he
                        go_wp2_with fail
                        refine bodyPost_ret (v := .tuple #[.int .i64 0, .int .i64 0, str [], .bool false]) (by simp [results, Tryd.results40, go_sem]) rfl ?_
                        exact ⟨by unfold rdT; rw [HF.out], HB2.out⟩
                    · have t1 := Lib.hid (decide_eq_false c1)
                      have HF := Lib.hid (HD.out.2 (fun h => c1 (by have := h.1; unfold okK at this; omega)))
                      clear c1
                      go_wp2_with fail
                      refine (I1.out _).mono ?_
                      rintro e w3 ⟨he, rfl⟩
                      rw [t1.out] at he
                      subst he
                      go_wp2_with fail
                      refine bodyPost_ret (v := .tuple #[.int .i64 0, .int .i64 0, str [], .bool false]) (by simp [results, Tryd.results40, go_sem]) rfl ?_
                      exact ⟨by unfold rdT; rw [HF.out], HB2.out⟩
                  · have g4 : ((s[z].toNat : Int) != 35) = true := by
                      rw [bne_iff_ne]; intro h; apply hq; apply UInt8.toNat.inj; show s[z].toNat = 35; omega
                    have HZ2 := Lib.hid (show (35 : UInt8) ∉ s.data.toList.drop (z - 1 + 1) by rw [show z - 1 + 1 = z by omega, at_get s z hz]; simp [HZ.out, Ne.symm hq])
                    clear hq
                    go_wp2_with fail
                    go_roundw
                    case rel => exact ⟨z - 1, by omega, by omega, by congr 1; omega, HZ2, trivial⟩
                    case measure => simp [intOf]; omega
                · obtain rfl : m = z := by omega
                  have g3 : decide ((m : Int) > (m : Int)) = false := decide_eq_false (by omega)
                  have HP := Lib.hid (parted2 s hlt hml hkm2)
                  rw [HQ.out, HQ2.out] at HP
                  have HF := Lib.hid (reads_no35 HP.out HN.out HU.out HZ.out)
                  have g5 : decide ((m : Int) ≥ (s.size : Int)) = false := decide_eq_false (by omega)
                  have g6 : decide ((m : Int) ≤ (m : Int)) = true := decide_eq_true (by omega)
                  go_wp2_with fail
                  refine bodyPost_ret (v := .tuple #[.int .i64 0, .int .i64 0, str [], .bool false]) (by simp [results, Tryd.results40, go_sem]) rfl ?_
                  exact ⟨by unfold rdT; rw [HF.out], Below.refl _ _⟩
            · have g2 : ((s[m].toNat : Int) != 58) = true := by
                rw [bne_iff_ne]; intro h; apply hq; apply UInt8.toNat.inj; show s[m].toNat = 58; omega
              have HM2 := Lib.hid (show (58 : UInt8) ∉ (s.data.toList.drop k).take (m + 1 - k) by rw [mid_get s k m hml hkm]; simp [HM.out, Ne.symm hq])
              clear hq
              go_wp2_with fail
              go_roundw
              case rel => exact ⟨m + 1, by omega, by omega, by go_num, HM2, trivial⟩
              case measure => simp [intOf]; omega
          · obtain rfl : m = s.size := by omega
            have hu : (58 : UInt8) ∉ s.data.toList.drop (k + 1) := fun h => HM.out (by
              rw [List.take_of_length_le (by rw [List.length_drop, HSL.out]; omega), at_get s k hlt]
              exact List.mem_cons_of_mem _ h)
            have he : s.data.toList = s.data.toList.take k ++ 47 :: s.data.toList.drop (k + 1) := by
              have h1 := at_get s k hlt
              rw [HQ.out] at h1
              rw [← h1, List.take_append_drop]
            have HF := Lib.hid (reads_no58 he HN.out hu)
            have g3 : decide ((s.size : Int) - 1 > (s.size : Int)) = false := decide_eq_false (by omega)
            have g5 : decide ((s.size : Int) ≥ (s.size : Int)) = true := decide_eq_true (by omega)
            clear hu he hml HM
            go_wp2_with fail
            refine wp_loop_rounds 1 ?_
            rw [rounds_succ]
            go_wp2_with fail
            refine bodyPost_ret (v := .tuple #[.int .i64 0, .int .i64 0, str [], .bool false]) (by simp [results, Tryd.results40, go_sem]) rfl ?_
            exact ⟨by unfold rdT; rw [HF.out], Below.refl _ _⟩
      · have g1 : ((s[k].toNat : Int) != 47) = true := by
          rw [bne_iff_ne]; intro h; apply hq; apply UInt8.toNat.inj; show s[k].toNat = 47; omega
        have HN2 := Lib.hid (show (47 : UInt8) ∉ s.data.toList.take (k + 1) by rw [take_get s k hlt]; simp [HN.out, Ne.symm hq])
        clear hq
        go_wp2_with fail
        go_roundw
        case rel => exact ⟨k + 1, by omega, by go_num, HN2, trivial⟩
        case measure => simp [intOf]; omega
    · obtain rfl : k = s.size := by omega
      have hno : (47 : UInt8) ∉ s.data.toList := by have := HN.out; rwa [List.take_of_length_le (by rw [HSL.out]; exact Nat.le_refl _)] at this
      have HF := Lib.hid (reads_no47 hno)
      have g3 : decide ((s.size : Int) - 1 > (s.size : Int)) = false := decide_eq_false (by omega)
      have g5 : decide ((s.size : Int) ≥ (s.size : Int)) = true := decide_eq_true (by omega)
      clear hno HN
      go_wp2_with fail
      refine wp_loop_rounds 1 ?_
      rw [rounds_succ]
      go_wp2_with fail
      refine wp_loop_rounds 1 ?_
      rw [rounds_succ]
      go_wp2_with fail
      refine bodyPost_ret (v := .tuple #[.int .i64 0, .int .i64 0, str [], .bool false]) (by simp [results, Tryd.results40, go_sem]) rfl ?_
      exact ⟨by unfold rdT; rw [HF.out], Below.refl _ _⟩
end Go.Proofs.YtibpajlfcknegaaDoor.kit
