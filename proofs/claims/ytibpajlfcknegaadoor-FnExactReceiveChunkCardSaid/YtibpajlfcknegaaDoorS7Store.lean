/-
  Chapter 7: a chunk is received: the program's store.
-/
import Derived.Test.YtibpajlfcknegaaDoorS7Recv
import Derived.Test.YtibpajlfcknegaaDoorS7Is
import Derived.Test.YtibpajlfcknegaaDoorS7Parse
import Derived.Test.YtibpajlfcknegaaDoorInvR
import Derived.Deep.DeepCutAuto
namespace Go.Proofs.YtibpajlfcknegaaDoor.kit
open Go.ChangeShapes Go.WideShapes Go.ChangeAt Go.RowKit
set_option linter.unusedVariables false
set_option linter.unusedSimpArgs false

/-- the three sentinels lie in memory, the first apart from the others -/
structure Sen (w : World) (a0 a1 a2 : Addr) : Prop where
  v0 : w.cell? ⟨0, 0, none⟩ = some (.iface 146 (.pointer (some a0)))
  v1 : w.cell? ⟨1, 0, none⟩ = some (.iface 146 (.pointer (some a1)))
  v2 : w.cell? ⟨2, 0, none⟩ = some (.iface 146 (.pointer (some a2)))
  n1 : a1 ≠ a0
  n2 : a2 ≠ a0
  b0 : ∃ c t, w.heap[a0.block]? = some (.cells c t (0, 0))
  b1 : ∃ c t, w.heap[a1.block]? = some (.cells c t (0, 0))
  b2 : ∃ c t, w.heap[a2.block]? = some (.cells c t (0, 0))
theorem Sen.below {w w' : World} {a0 a1 a2 : Addr} (h : Sen w a0 a1 a2) (hb : Below w.heap.size w w') : Sen w' a0 a1 a2 := by
  have hc : ∀ (p : Addr) v, w.cell? p = some v → w'.cell? p = some v := fun p v hp => (hb.cell (p := p) (World.block_lt_of_cell? w _ hp)).trans hp
  have hk : ∀ (k : Nat), (∃ c t, w.heap[k]? = some (.cells c t (0, 0))) → ∃ c t, w'.heap[k]? = some (.cells c t (0, 0)) := fun k ⟨c, t, hh⟩ => ⟨c, t, (hb.block k (Array.getElem?_eq_some_iff.1 hh).1).trans hh⟩
  exact ⟨hc _ _ h.v0, hc _ _ h.v1, hc _ _ h.v2, h.n1, h.n2, hk _ h.b0, hk _ h.b1, hk _ h.b2⟩
abbrev errV (n : Int) (a : Addr) : Value := .iface 91 (.agg #[.int .i64 n, .iface 146 (.pointer (some a))])
set_option maxRecDepth 100000 in
set_option maxHeartbeats 8000000 in
/-- there are no places -/
theorem store_none (a : Option Addr) (cap i : Nat) (n : Int) (d : ByteArray) (w : World) (a0 a1 a2 : Addr) (hS : Sen w a0 a1 a2) :
    Calls Tryd.prog 43 #[.slice a 0 cap, .agg #[.int .i64 (i : Int), .int .i64 n, .string d]] w fun e w' => e = .returned (errV i a0) ∧ Below w.heap.size w w' := by
  obtain ⟨W, hW⟩ : ∃ W, W = w.alloc (.cells #[.int .i64 (i : Int), .int .i64 n, .string d] 69) := ⟨_, rfl⟩
  have HB := Lib.hid (show Below w.heap.size w W by rw [hW]; exact (Below.refl _ _).alloc (Nat.le_refl _) _)
  have HR := Lib.hid (show BoxC W w.heap.size 69 #[.int .i64 (i : Int), .int .i64 n, .string d] by rw [hW]; exact BoxC.new _ _ _)
  have HW := Lib.hid hW
  have hS' := hS.below HB.out
  have y0 := hS'.v0
  have y1 := hS'.v1
  have y2 := hS'.v2
  rw [hW] at y0 y1 y2
  clear hW hS hS'
  go_enter Tryd.func43, Tryd.ntmps43
  go_wp2_with fail
  go_ret
  exact ⟨rfl, HW.out ▸ HB.out⟩
set_option maxRecDepth 100000 in
set_option maxHeartbeats 8000000 in
/-- there is another number of places -/
theorem store_other (a : Option Addr) (len cap i : Nat) (n : Int) (d : ByteArray) (w : World) (a0 a1 a2 : Addr) (hS : Sen w a0 a1 a2) (h0 : 0 < len) (hn : (len : Int) ≠ n) :
    Calls Tryd.prog 43 #[.slice a len cap, .agg #[.int .i64 (i : Int), .int .i64 n, .string d]] w fun e w' => e = .returned (errV i a1) ∧ Below w.heap.size w w' := by
  obtain ⟨W, hW⟩ : ∃ W, W = w.alloc (.cells #[.int .i64 (i : Int), .int .i64 n, .string d] 69) := ⟨_, rfl⟩
  have HB := Lib.hid (show Below w.heap.size w W by rw [hW]; exact (Below.refl _ _).alloc (Nat.le_refl _) _)
  have HR := Lib.hid (show BoxC W w.heap.size 69 #[.int .i64 (i : Int), .int .i64 n, .string d] by rw [hW]; exact BoxC.new _ _ _)
  have HW := Lib.hid hW
  have hS' := hS.below HB.out
  have y0 := hS'.v0
  have y1 := hS'.v1
  have y2 := hS'.v2
  rw [hW] at y0 y1 y2
  clear hW hS hS'
  have g0 : ((len : Int) == 0) = false := by rw [beq_eq_false_iff_ne]; omega
  have g1 : ((len : Int) != n) = true := by rw [bne_iff_ne]; exact hn
  have g2 : (len == 0) = false := by rw [beq_eq_false_iff_ne]; omega
  clear h0 hn
  go_enter Tryd.func43, Tryd.ntmps43
  go_wp2_with fail
  go_ret
  exact ⟨rfl, HW.out ▸ HB.out⟩
set_option maxRecDepth 100000 in
set_option maxHeartbeats 8000000 in
/-- the place is taken -/
theorem store_taken (B g cap i : Nat) (P : List ByteArray) (d : ByteArray) (w : World) (a0 a1 a2 : Addr) (hS : Sen w a0 a1 a2) (o : OwnW B w (.slice (some ⟨g, 0, none⟩) P.length cap) P) (hi : i < P.length) (ht : (P.getD i .empty).toList.isEmpty = false) :
    Calls Tryd.prog 43 #[.slice (some ⟨g, 0, none⟩) P.length cap, .agg #[.int .i64 (i : Int), .int .i64 (P.length : Int), .string d]] w fun e w' => e = .returned (errV i a2) ∧ Below w.heap.size w w' := by
  have hc := cellW o i hi
  have hgl := (o.block g rfl).2
  obtain ⟨n, hn⟩ : ∃ n : Int, n = (P.length : Int) := ⟨_, rfl⟩
  rw [← hn]
  obtain ⟨W, hW⟩ : ∃ W, W = w.alloc (.cells #[.int .i64 (i : Int), .int .i64 n, .string d] 69) := ⟨_, rfl⟩
  have HB := Lib.hid (show Below w.heap.size w W by rw [hW]; exact (Below.refl _ _).alloc (Nat.le_refl _) _)
  have HR := Lib.hid (show BoxC W w.heap.size 69 #[.int .i64 (i : Int), .int .i64 n, .string d] by rw [hW]; exact BoxC.new _ _ _)
  have HW := Lib.hid hW
  have hS' := hS.below HB.out
  have y0 := hS'.v0
  have y1 := hS'.v1
  have y2 := hS'.v2
  rw [hW] at y0 y1 y2
  clear hW hS hS'
  have hc' := (HB.out.cell (p := ⟨g, i, none⟩) hgl).trans hc
  rw [HW.out] at hc'
  have g0 : ((P.length : Int) == 0) = false := by rw [beq_eq_false_iff_ne]; omega
  have g1 : ((P.length : Int) != n) = false := by rw [hn]; simp
  have g2 : (P.length == 0) = false := by rw [beq_eq_false_iff_ne]; omega
  have g3 : (P.getD i .empty).toList.isEmpty = false := ht
  have hi' : (i : Int) < (P.length : Int) := by omega
  generalize P.getD i .empty = z at *
  clear hc ht hn
  go_enter Tryd.func43, Tryd.ntmps43
  go_wp2_with fail
  go_ret
  exact ⟨rfl, HW.out ▸ HB.out⟩
set_option maxRecDepth 100000 in
set_option maxHeartbeats 8000000 in
/-- the chunk is stored -/
theorem store_yes (B g cap i : Nat) (P : List ByteArray) (d s : ByteArray) (w : World) (a0 a1 a2 : Addr) (hS : Sen w a0 a1 a2) (hT : Tab w) (hB0 : B ≤ w.heap.size) (o : OwnW B w (.slice (some ⟨g, 0, none⟩) P.length cap) P) (hi : i < P.length) (hP40 : P.length ≤ 40) (ht : (P.getD i .empty).toList.isEmpty = true)
    (hd : d.size ≤ 1048576) (hs : chunkL i P.length d.data.toList = s.data.toList) :
    Calls Tryd.prog 43 #[.slice (some ⟨g, 0, none⟩) P.length cap, .agg #[.int .i64 (i : Int), .int .i64 (P.length : Int), .string d]] w fun e w' => e = .returned .nilIface ∧ OwnW B w' (.slice (some ⟨g, 0, none⟩) P.length cap) (P.set i s) ∧ Below B w w' := by
  have hc := cellW o i hi
  have hgl := (o.block g rfl).2
  have hgB := (o.block g rfl).1
  have jc := fun W (h : Tab W) => implChunk (i : Int) (P.length : Int) d W (by omega) (by omega) (by omega) (by omega) hd h
  rw [hs] at jc
  have e1 : (⟨s.data.toList.toArray⟩ : ByteArray) = s := ba_eta s
  rw [e1] at jc
  obtain ⟨n, hn⟩ : ∃ n : Int, n = (P.length : Int) := ⟨_, rfl⟩
  rw [← hn] at jc ⊢
  have JC := Lib.hid jc
  have HT := Lib.hid (fun W (h : Below w.heap.size w W) => hT.below h)
  obtain ⟨W, hW⟩ : ∃ W, W = w.alloc (.cells #[.int .i64 (i : Int), .int .i64 n, .string d] 69) := ⟨_, rfl⟩
  have HB := Lib.hid (show Below w.heap.size w W by rw [hW]; exact (Below.refl _ _).alloc (Nat.le_refl _) _)
  have HR := Lib.hid (show BoxC W w.heap.size 69 #[.int .i64 (i : Int), .int .i64 n, .string d] by rw [hW]; exact BoxC.new _ _ _)
  have HW := Lib.hid hW
  have hS' := hS.below HB.out
  have y0 := hS'.v0
  have y1 := hS'.v1
  have y2 := hS'.v2
  rw [hW] at y0 y1 y2
  clear hW hS hS'
  have HO := Lib.hid (o.later HB.out)
  have hc' := (HB.out.cell (p := ⟨g, i, none⟩) hgl).trans hc
  rw [HW.out] at hc'
  have g0 : ((P.length : Int) == 0) = false := by rw [beq_eq_false_iff_ne]; omega
  have g1 : ((P.length : Int) != n) = false := by rw [hn]; simp
  have g2 : (P.length == 0) = false := by rw [beq_eq_false_iff_ne]; omega
  have g3 : (P.getD i .empty).toList.isEmpty = true := ht
  have hiP := hi
  have hi' : (i : Int) < (P.length : Int) := by omega
  generalize P.getD i .empty = z at *
  clear hc ht hn jc e1 hs hT o
  go_enter Tryd.func43, Tryd.ntmps43
  go_wp2_with fail
  rw [← HW.out]
  clear HW y0 y1 y2 hc' g0 g1 g2 g3
  refine region_reachR (m := 6) (fun a b => Below a.heap.size a b) ((Below.refl _ _).drew) (fun _ _ _ h k => Below.trans h (k.mono h.size)) [37, 38, 39, 40, 41, 42] (Fs [isV (.slice (some ⟨g, 0, none⟩) P.length cap), isV (.pointer (some ⟨w.heap.size, 0, none⟩)), isV (.int .i64 (i : Int)), isV (.agg #[.int .i64 (i : Int), .int .i64 n, .string d]), isV (.string s), isV (.pointer (some ⟨g, i, none⟩))]) (by kernel_rfl) (by decide) rfl (by decide) (by kernel_rfl) (by kernel_rfl) (fun _ _ _ _ _ h => h) (Fs_monoR ⟨isV_monoR _ _, isV_monoR _ _, isV_monoR _ _, isV_monoR _ _, isV_monoR _ _, isV_monoR _ _, trivial⟩) ?step ?tail
  case step =>
    intro i hi vs wq hBq hd
    rcases (show i = 0 ∨ i = 1 ∨ i = 2 ∨ i = 3 ∨ i = 4 ∨ i = 5 from by omega) with rfl | rfl | rfl | rfl | rfl | rfl
    · refine wpOp_step (o := _) rfl (fun K' hK => ?_)
      have HK := Lib.hid hK
      clear hK
      simp only [lay, Act.put, List.setIfInBounds_toArray, List.set_cons_zero, List.set_cons_succ, List.getD_cons_zero, List.getD_cons_succ, id_eq]
      go_simp
      refine HK.out _ _ ⟨_, ?_, Below.refl _ _, rfl⟩
      simp only [lay, Act.put, List.setIfInBounds_toArray, List.set_cons_zero, List.set_cons_succ, List.getD_cons_zero, List.getD_cons_succ, id_eq]
    · refine wpOp_step (o := _) rfl (fun K' hK => ?_)
      have HK := Lib.hid hK
      clear hK
      simp only [lay, Act.put, List.setIfInBounds_toArray, List.set_cons_zero, List.set_cons_succ, List.getD_cons_zero, List.getD_cons_succ, id_eq]
      go_simp
      refine HK.out _ _ ⟨_, ?_, Below.refl _ _, rfl⟩
      simp only [lay, Act.put, List.setIfInBounds_toArray, List.set_cons_zero, List.set_cons_succ, List.getD_cons_zero, List.getD_cons_succ, id_eq]
    · have e1' : vs 1 = .pointer (some ⟨w.heap.size, 0, none⟩) := hd 1 (List.contains_iff_mem.1 (by kernel_rfl))
      have hBq : Below W.heap.size W wq := hBq
      have z0 := (HR.out.later hBq).c 0 rfl
      refine wpOp_step (o := _) rfl (fun K' hK => ?_)
      have HK := Lib.hid hK
      clear hK
      simp only [lay, Act.put, List.setIfInBounds_toArray, List.set_cons_zero, List.set_cons_succ, List.getD_cons_zero, List.getD_cons_succ, id_eq]
      rw [e1']
      go_simp
      refine HK.out _ _ ⟨_, ?_, Below.refl _ _, rfl⟩
      simp only [lay, Act.put, List.setIfInBounds_toArray, List.set_cons_zero, List.set_cons_succ, List.getD_cons_zero, List.getD_cons_succ, id_eq]
      rw [e1']
    · have hBq : Below W.heap.size W wq := hBq
      have z0 := (HR.out.later hBq).c 0 rfl
      have z1 := (HR.out.later hBq).c 1 rfl
      have z2 := (HR.out.later hBq).c 2 rfl
      refine wpOp_step (o := _) rfl (fun K' hK => ?_)
      have HK := Lib.hid hK
      clear hK
      simp only [lay, Act.put, List.setIfInBounds_toArray, List.set_cons_zero, List.set_cons_succ, List.getD_cons_zero, List.getD_cons_succ, id_eq]
      go_simp
      refine HK.out _ _ ⟨_, ?_, Below.refl _ _, rfl⟩
      simp only [lay, Act.put, List.setIfInBounds_toArray, List.set_cons_zero, List.set_cons_succ, List.getD_cons_zero, List.getD_cons_succ, id_eq]
    · have e3' : vs 3 = .agg #[.int .i64 (i : Int), .int .i64 n, .string d] := hd 3 (List.contains_iff_mem.1 (by kernel_rfl))
      have hBq' : Below W.heap.size W wq := hBq
      refine wpOp_step (o := _) rfl (fun K' hK => ?_)
      have HK := Lib.hid hK
      clear hK
      simp only [lay, Act.put, List.setIfInBounds_toArray, List.set_cons_zero, List.set_cons_succ, List.getD_cons_zero, List.getD_cons_succ, id_eq]
      rw [e3']
      go_simp
      go_at_call 61
      refine (JC.out wq (HT.out _ (HB.out.trans (hBq'.mono HB.out.size)))).mono ?_
      rintro e w2 ⟨rfl, hb⟩
      refine HK.out _ _ ⟨_, ?_, hb, rfl⟩
      simp only [lay, Act.put, List.setIfInBounds_toArray, List.set_cons_zero, List.set_cons_succ, List.getD_cons_zero, List.getD_cons_succ, id_eq]
      rw [e3']
    · have e0' : vs 0 = .slice (some ⟨g, 0, none⟩) P.length cap := hd 0 (List.contains_iff_mem.1 (by kernel_rfl))
      have e2' : vs 2 = .int .i64 (i : Int) := hd 2 (List.contains_iff_mem.1 (by kernel_rfl))
      refine wpOp_step (o := _) rfl (fun K' hK => ?_)
      have HK := Lib.hid hK
      clear hK
      simp only [lay, Act.put, List.setIfInBounds_toArray, List.set_cons_zero, List.set_cons_succ, List.getD_cons_zero, List.getD_cons_succ, id_eq]
      rw [e0', e2']
      go_simp
      refine HK.out _ _ ⟨_, ?_, Below.refl _ _, rfl⟩
      simp only [lay, Act.put, List.setIfInBounds_toArray, List.set_cons_zero, List.set_cons_succ, List.getD_cons_zero, List.getD_cons_succ, id_eq]
      rw [e0', e2']
  case tail =>
    intro vs wq hBq hf
    have e4 : vs 4 = .string s := hf 4 (by decide)
    have e5 : vs 5 = .pointer (some ⟨g, i, none⟩) := hf 5 (by decide)
    simp only [lay, Act.put, List.setIfInBounds_toArray, List.set_cons_zero, List.set_cons_succ, List.getD_cons_zero, List.getD_cons_succ, id_eq]
    rw [e4, e5]
    clear e4 e5
    have hBq : Below W.heap.size W wq := hBq
    refine any_all (rs := [6]) (by kernel_rfl) (by simp) ?_
    intro i hi
    simp only [List.mem_cons, List.not_mem_nil, or_false] at hi
    subst hi
    refine wpOp_step (o := _) rfl (fun K' hK => ?_)
    have HK := Lib.hid hK
    clear hK
    have hOq := HO.out.later hBq
    have hz := cellW hOq i hiP
    have hzf := hOq.row.frozenAt i
    go_simp
    refine HK.out _ _ ?_
    clear HK K' hz hzf
    try simp only [Act.put, List.setIfInBounds_toArray, List.set_cons_zero, List.set_cons_succ]
    refine any_done (by kernel_rfl) ?_ _
    have HST := Lib.hid (hOq.storedAt i s)
    have HBS := Lib.hid ((HB.out.mono hB0).trans (hBq.mono (Nat.le_trans hB0 HB.out.size)) |>.setCell (p := ⟨g, i, none⟩) hgB (.string s))
    clear hBq hOq
    go_wp2_with fail
    go_ret
    exact ⟨rfl, HST.out, HBS.out⟩
end Go.Proofs.YtibpajlfcknegaaDoor.kit
