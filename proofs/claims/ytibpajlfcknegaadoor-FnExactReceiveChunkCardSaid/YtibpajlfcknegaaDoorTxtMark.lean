/-
  The laws' marks on slices of strings: the text of a mark; writing and checking them.
-/
import Derived.Test.YtibpajlfcknegaaDoorTxts
import Derived.Lib.ItoaNum
import Derived.Deep.RegionWith
import Derived.Deep.DeepCutAuto
import Derived.Test.YtibpajlfcknegaaDoorLater
namespace Go.Proofs.YtibpajlfcknegaaDoor.kit
open Go.ChangeShapes Go.WideShapes Go.ChangeAt Go.RowKit
set_option linter.unusedVariables false

/-- the text of a mark -/
def mtL (k : Nat) : List UInt8 := 109 :: Lib.decDigits k
def mtB (k : Nat) : ByteArray := ⟨(mtL k).toArray⟩
theorem mdSmall {u : Nat} (h : u < 10) : Lib.decDigits u = [UInt8.ofNat (48 + u)] := by rw [Lib.decDigits, dif_pos h]
theorem mdBig {u : Nat} (h : ¬ u < 10) : Lib.decDigits u = Lib.decDigits (u / 10) ++ [UInt8.ofNat (48 + u % 10)] := by rw [Lib.decDigits, dif_neg h]
theorem mdLen : ∀ (k u : Nat), u < 10 ^ (k + 1) → (Lib.decDigits u).length ≤ k + 1 := by
  intro k
  induction k with
  | zero => intro u h; rw [mdSmall (by simpa using h)]; simp
  | succ k ih =>
    intro u h
    by_cases hu : u < 10
    · rw [mdSmall hu]; simp
    · rw [mdBig hu, List.length_append]
      have := ih (u / 10) (by rw [Nat.pow_succ] at h; omega)
      simp; omega
def MInv (a m : Nat) (l : List UInt8) : Prop := (0 < m → Lib.decDigits m ++ l = Lib.decDigits a) ∧ (m = 0 → l = Lib.decDigits a)
theorem MInv.start {a : Nat} (h : 0 < a) : MInv a a [] := ⟨fun _ => by simp, fun h0 => by omega⟩
theorem MInv.step {a m : Nat} {l : List UInt8} (h : MInv a m l) (hm : 0 < m) : MInv a (m / 10) (UInt8.ofNat (48 + m % 10) :: l) := by
  have h1 := h.1 hm
  by_cases hu : m < 10
  · rw [mdSmall hu] at h1
    refine ⟨fun h0 => by omega, fun _ => ?_⟩
    rw [← h1, Nat.mod_eq_of_lt hu]; rfl
  · rw [mdBig hu, List.append_assoc] at h1
    exact ⟨fun _ => h1, fun h0 => by omega⟩
theorem MInv.len {a m : Nat} {l : List UInt8} (h : MInv a m l) (ha : a < 10 ^ 20) : l.length ≤ 20 := by
  have hl := mdLen 19 a ha
  rcases Nat.eq_zero_or_pos m with h0 | h0
  · rw [h.2 h0]; exact hl
  · have := congrArg List.length (h.1 h0)
    rw [List.length_append] at this
    omega
set_option maxRecDepth 100000 in
theorem markText (a : Nat) (w : World) (h0 : 0 < a) (h1 : a ≤ 9223372036854775807) :
    Calls Tryd.prog 45 #[.int .i64 a] w fun e w' => e = .returned (.string (mtB a)) ∧ Below w.heap.size w w' := by
  have g2 : decide ((a : Int) ≤ 0) = false := by simp; omega
  go_enter Tryd.func45, Tryd.ntmps45
  go_wp2_with fail
  go_loopw [0, 3] (fun n o wr => ∃ (m : Nat) (l : List UInt8), m ≤ a ∧ n = .int .i64 m ∧ o = str l ∧ Hid (MInv a m l) ∧ Below w.heap.size w wr) (fun n _ _ => (intOf n).toNat)
  case atStart => exact ⟨a, [], Nat.le_refl _, rfl, rfl, Lib.hid (MInv.start h0), Below.refl _ _⟩
  case round =>
    obtain ⟨m, l, hm, rfl, rfl, hinv, hb⟩ := hrel
    have hl := hinv.out.len (by omega)
    by_cases hz : m = 0
    · subst hz
      have HE := Lib.hid (hinv.out.2 rfl)
      go_wp2_with fail
      go_ret
      refine ⟨?_, hb⟩
      unfold mtB mtL
      rw [← HE.out]
      exact congrArg (fun x => Ending.returned (Value.string x)) (ByteArray.mk_append_mk [109] l)
    · have g3 : decide ((m : Int) > 0) = true := by simp; omega
      have hcv : ∀ x : Int, (convert 96 9 (.slice (some ⟨wr.heap.size, 0, none⟩) 1 1)).run Tryd.prog (wr.alloc (.cells #[.int .u8 x] 5)) = .ok (.string ⟨[UInt8.ofNat x.toNat].toArray⟩) (wr.alloc (.cells #[.int .u8 x] 5)) := fun x => conv1 Tryd.underlying96 Tryd.underlying5 Tryd.underlying9 wr x
      go_wp2_with fail
      go_roundw
      case rel =>
        refine ⟨m / 10, UInt8.ofNat (48 + m % 10) :: l, by have := Nat.div_le_self m 10; omega, by go_num, ?_, Lib.hid (hinv.out.step (by omega)), hb.alloc hb.size _⟩
        rw [show (#[48 + UInt8.ofNat (m % 10)] : Array UInt8) = [UInt8.ofNat (48 + m % 10)].toArray by simp, ByteArray.mk_append_mk]
        rfl
      case measure => simp [intOf]; omega
/-- what marking leaves -/
def marksW (k : Int) (n : Nat) : List ByteArray := (List.range n).map fun i : Nat => mtB (k.toNat + i)
theorem marksW_len (k : Int) (n : Nat) : (marksW k n).length = n := by simp [marksW]
theorem marksW_get (k : Int) (n j : Nat) (h : j < n) : (marksW k n).getD j .empty = mtB (k.toNat + j) := by simp [marksW, List.getD, h]
theorem marksW_set (k : Int) (j : Nat) (l : List ByteArray) (h : j < l.length) : ((marksW k j ++ l.drop j).map Value.string).set j (.string (mtB (k.toNat + j))) = (marksW k (j + 1) ++ l.drop (j + 1)).map Value.string := by
  have e1 : marksW k (j + 1) = marksW k j ++ [mtB (k.toNat + j)] := by simp [marksW, List.range_succ]
  rw [e1, List.drop_eq_getElem_cons h, List.map_append, List.set_append_right (h := by rw [List.length_map, marksW_len]; exact Nat.le_refl _)]
  rw [List.length_map, marksW_len]
  simp only [List.map_append, List.map_cons, Nat.sub_self, List.set_cons_zero, List.append_assoc, List.cons_append, List.nil_append]
theorem eq_cellW {base : Nat} {w : World} {a : Option Addr} {n c : Nat} {l : List ByteArray} (h : OwnW base w (.slice a n c) l) (hn : n = l.length) (h0 : 0 < n) : ∃ g, a = some ⟨g, 0, none⟩ ∧ base ≤ g ∧ g < w.heap.size ∧ ∀ j, j < n → (∃ u, w.cell? ⟨g, j, none⟩ = some (.string u)) ∧ w.frozen? ⟨g, j, none⟩ = false := by
  subst hn
  obtain ⟨g, cap', he, _, _, hbg, hgl⟩ := h.there h0
  injection he with he1 _ he3
  subst he1 he3
  refine ⟨g, rfl, hbg, hgl, fun j hj => ⟨⟨l[j], ?_⟩, h.row.frozenAt j⟩⟩
  rw [h.row.cellAt j (by omega), List.getElem?_map, List.getElem?_eq_getElem hj]; rfl
set_option maxRecDepth 100000 in
theorem markStringS (base : Nat) (k : Int) (v : Value) (l : List ByteArray) (w : World) (hl : l.length ≤ 4194304) (hk0 : 1 ≤ k) (hk : k ≤ 1000000000) (hown : OwnW base w v l) :
    Calls Tryd.prog 21 #[v, .int .i64 k] w fun e w' => e = .returned (.int .i64 (k + (l.length : Int))) ∧ OwnW base w' v (marksW k l.length) ∧ w.grownBy w' v.ownBlock := by
  obtain ⟨a, cap, rfl, hlc, hcm, hat, hbl⟩ := hown.form
  have HO := Lib.hid hown
  clear hown hat
  go_enter Tryd.func21, Tryd.ntmps21
  go_wp2_with fail
  go_loopw [1, 5] (fun m i wr => ∃ j : Nat, j ≤ l.length ∧ i = .int .i64 j ∧ m = .int .i64 (k + (j : Int)) ∧ OwnW base wr (.slice a l.length cap) (marksW k j ++ l.drop j) ∧ w.grownBy wr (Value.slice a l.length cap).ownBlock) (fun _ i _ => l.length - (intOf i).toNat)
  case atStart => exact ⟨0, Nat.zero_le _, rfl, by simp, by simpa [marksW] using HO.out, ⟨rfl, rfl, rfl, Nat.le_refl _, fun _ _ _ => rfl⟩⟩
  case round =>
    obtain ⟨j, hj, rfl, rfl, hown, hg⟩ := hrel
    have hlen : (marksW k j ++ l.drop j).length = l.length := by rw [List.length_append, marksW_len, List.length_drop]; omega
    by_cases hlt : j < l.length
    · obtain ⟨g, rfl, hbg, hgl, hcf⟩ := eq_cellW hown hlen.symm (by omega)
      have HC := Lib.hid (hcf j hlt)
      have HW := Lib.hid hown
      have HL := Lib.hid hlen
      have HG := Lib.hid hg
      clear hown hlen hg hcf
      have hk2 : ((k.toNat + j : Nat) : Int) = k + (j : Int) := by omega
      have J := Lib.hid (fun W => hk2 ▸ markText (k.toNat + j) W (by omega) (by omega))
      clear hk2
      go_wp2_with fail
      refine (J.out _).mono ?_
      rintro e w2 ⟨rfl, hb⟩
      have HB := Lib.hid hb
      have hown2 := HW.out.later hb
      have HW2 := Lib.hid hown2
      have hz := hb.size
      obtain ⟨⟨u, hu⟩, hfr⟩ := HC.out
      have hu2 := (hb.cell (p := ⟨g, j, none⟩) hgl).trans hu
      have hfr2 : w2.frozen? ⟨g, j, none⟩ = false := by rw [hb.frozen (p := ⟨g, j, none⟩) hgl]; exact hfr
      clear hb hown2 hu hfr
      have k3 : (0 : Int) ≤ (j : Int) := by omega
      have k5 : (j : Int) < (l.length : Int) := by omega
      go_wp2_with fail
      go_roundw
      case rel =>
        have h1 := (HW2.out).row
        rw [HL.out] at h1
        have h2 := h1.stored j (.string (mtB (k.toNat + j)))
        refine ⟨j + 1, by omega, by go_num, by congr 1; omega, ?_, gtrans HG.out (gtrans ⟨HB.out.os, HB.out.tape, HB.out.output, HB.out.size, fun i hi _ => HB.out.block i hi⟩ h2.2)⟩
        exact OwnW.of (n := l.length) h2.1 (marksW_set k j l hlt)
      case measure => simp [intOf]; omega
    · obtain rfl : j = l.length := by omega
      have HW := Lib.hid hown
      have HG := Lib.hid hg
      clear hown hlen hg
      go_wp2_with fail
      go_ret
      exact ⟨rfl, by have := HW.out; rw [List.drop_length, List.append_nil] at this; exact this, HG.out⟩
set_option maxRecDepth 100000 in
theorem heldStringS (base : Nat) (k : Int) (n : Nat) (v : Value) (w : World) (hl : n ≤ 4194304) (hk0 : 1 ≤ k) (hk : k ≤ 1000000000) (hown : OwnW base w v (marksW k n)) :
    Calls Tryd.prog 22 #[v, .int .i64 k] w fun e w' => e = .returned (.int .i64 (k + (n : Int))) ∧ Below w.heap.size w w' := by
  obtain ⟨a, cap, rfl, hlc, hcm, hat, hbl⟩ := hown.form
  rw [marksW_len] at hlc ⊢
  have HA := Lib.hid hat
  clear hown hat
  go_enter Tryd.func22, Tryd.ntmps22
  go_wp2_with fail
  go_loopw [1, 5] (fun m i wr => ∃ j : Nat, j ≤ n ∧ i = .int .i64 j ∧ m = .int .i64 (k + (j : Int)) ∧ Hid (Below w.heap.size w wr)) (fun _ i _ => n - (intOf i).toNat)
  case atStart => exact ⟨0, Nat.zero_le _, rfl, by simp, Lib.hid (Below.refl _ _)⟩
  case round =>
    obtain ⟨j, hj, rfl, rfl, HB⟩ := hrel
    by_cases hlt : j < n
    · obtain ⟨x, rfl, hx, hc⟩ := (HA.out.later HB.out) j (by rw [marksW_len]; exact hlt)
      rw [marksW_get k n j hlt] at hc
      have hk2 : ((k.toNat + j : Nat) : Int) = k + (j : Int) := by omega
      have J := fun W => Lib.hid (hk2 ▸ markText (k.toNat + j) W (by omega) (by omega))
      have t1 := tl_eq (mtB (k.toNat + j))
      clear hk2
      generalize mtB (k.toNat + j) = y at *
      have q0 := LaterOf.cell (a := x.add j) (by unfold Addr.add; split <;> exact hx) hc
      have k3 : (0 : Int) ≤ (j : Int) := by omega
      have k5 : (j : Int) < (n : Int) := by omega
      clear hc
      go_wp2_with fail
      refine wp_region_later (by kernel_rfl) (by kernel_rfl) ?_
      repeat (go_big_quiet_step (first | (with_reducible exact Calls.later_of (J _).out)))
      refine wpQuiet_nil ?_
      intro _ hw'
      obtain ⟨⟨wz, hwz⟩, hw''⟩ := hw'
      subst hw''
      have HZ := Lib.hid (HB.out.trans (hwz.mono HB.out.size))
      clear hwz
      go_wp2_with fail
      go_roundw
      case rel => exact ⟨j + 1, by omega, by go_num, by congr 1; omega, HZ⟩
      case measure => simp [intOf]; omega
    · obtain rfl : j = n := by omega
      go_wp2_with fail
      go_ret
      exact ⟨rfl, HB.out⟩
theorem eqStringSO (b1 b2 : Nat) (v1 v2 : Value) (l1 l2 : List ByteArray) (w : World) (h1 : l1.length ≤ 4194304) (h2 : l2.length ≤ 4194304) (o1 : OwnW b1 w v1 l1) (o2 : OwnW b2 w v2 l2) :
    Calls Tryd.prog 20 #[v1, v2] w fun e w' => e = .returned (.bool (decide (l1 = l2))) ∧ Below w.heap.size w w' := eqStringS b1 v1 l1 b2 v2 l2 w h1 o1 h2 o2
end Go.Proofs.YtibpajlfcknegaaDoor.kit
