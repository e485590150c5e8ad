/-
  Chapter 2: how sets are written: "none", or a digit for each server; nothing for what is no set.
-/
import Derived.Test.YtmojigimlhjphaaDoorS2Plain
import Derived.Test.YtmojigimlhjphaaDoorC1Int
namespace Go.Proofs.YtmojigimlhjphaaDoor.kit
open Go.ChangeShapes Go.WideShapes Go.ChangeAt Go.RowKit
set_option linter.unusedVariables false
set_option linter.unusedSimpArgs false

theorem infoU8b : (Tryd.prog.info? 5).map (fun i => (i.zero, i.size, i.bytes)) = some (some (.int .u8 0), 1, 1) := by kernel_rfl
/-- a digit for each number -/
def digs (l : List Int) : List UInt8 := l.map fun x => UInt8.ofNat (48 + x.toNat)
def fmtS (l : List Int) : List UInt8 := if are l = true then (if l.length = 0 then [110, 111, 110, 101] else digs l) else []
theorem digs_snoc (l : List Int) (k : Nat) (h : k < l.length) : digs (l.take (k + 1)) = digs (l.take k) ++ [UInt8.ofNat (48 + (l.getD k 0).toNat)] := by
  unfold digs; rw [take_snocI l k h, List.map_append]; rfl
theorem digs_length (l : List Int) : (digs l).length = l.length := by simp [digs]
theorem itoa_digit (x : Int) (h0 : 0 ≤ x) (h1 : x ≤ 4) : Lib.itoa x = [UInt8.ofNat (48 + x.toNat)] := by
  unfold Lib.itoa; rw [if_neg (by omega)]; exact decDigits_small (by omega)
set_option maxRecDepth 100000 in
theorem specFmt_any (a : Option Addr) (c : Nat) (l : List Int) (w : World) (hl : l.length ≤ 4194304) (ha : At w a l) :
    Calls Tryd.prog 17 #[.slice a l.length c] w fun e w' => e = .returned (str (fmtS l)) ∧ Below w.heap.size w w' := by
  have C1 := Lib.hid (specAre_any a c l w hl ha)
  have HA := Lib.hid ha
  clear ha
  cases he : are l
  · rw [he] at C1
    have HF := Lib.hid (show fmtS l = [] by unfold fmtS; rw [he]; rfl)
    clear he
    go_enter Tryd.func17, Tryd.ntmps17
    go_wp2_with (go_at_call 32; refine (C1.out).mono ?_; rintro e w1 ⟨rfl, hd⟩)
    go_ret
    exact ⟨by rw [HF.out]; rfl, hd.below _⟩
  · rw [he] at C1
    by_cases h0 : l.length = 0
    · have HF := Lib.hid (show fmtS l = [110, 111, 110, 101] by unfold fmtS; rw [he, if_pos rfl, if_pos h0])
      clear he
      obtain rfl : l = [] := List.eq_nil_of_length_eq_zero h0
      go_enter Tryd.func17, Tryd.ntmps17
      go_wp2_with (go_at_call 32; refine (C1.out).mono ?_; rintro e w1 ⟨rfl, hd⟩)
      go_ret
      exact ⟨by rw [HF.out]; rfl, hd.below _⟩
    · have HF := Lib.hid (show fmtS l = digs l by unfold fmtS; rw [he, if_pos rfl, if_neg h0])
      have HL := Lib.hid (are_lt he)
      have h5 := are_len he
      have g0 : ((l.length : Int) == 0) = false := by rw [beq_eq_false_iff_ne]; omega
      clear he
      go_enter Tryd.func17, Tryd.ntmps17
      go_wp2_with (go_at_call 32; refine (C1.out).mono ?_; rintro e w1 ⟨rfl, hd⟩)
      have HB1 := Lib.hid (hd.below w.heap.size)
      clear hd g0
      go_loopw [3, 4] (fun s i wr => ∃ k : Nat, k ≤ l.length ∧ i = .int .i64 k ∧ s = str (digs (l.take k)) ∧ Below w.heap.size w wr) (fun _ i _ => l.length - (intOf i).toNat)
      case atStart => exact ⟨0, Nat.zero_le _, rfl, rfl, HB1.out⟩
      case round =>
        obtain ⟨k, hk, rfl, rfl, hb⟩ := hrel
        by_cases hlt : k < l.length
        · obtain ⟨p, rfl, hp, hc⟩ := HA.out k hlt
          have hc' : wr.cell? (p.add k) = some (.int .i64 (l.getD k 0)) := (hb.cell (p := p.add k) (by unfold Addr.add; split <;> exact hp)).trans hc
          obtain ⟨hx0, hx1⟩ := HL.out k hlt
          have C2 := Lib.hid (specFormatInt (l.getD k 0) wr (by omega) (by omega))
          rw [itoa_digit _ (by omega) (by omega)] at C2
          have HT := Lib.hid (digs_snoc l k hlt)
          have hlen : (digs (l.take k)).length ≤ 5 := by rw [digs_length, List.length_take]; omega
          have HB := Lib.hid hb
          clear hc hb hx0 hx1
          generalize l.getD k 0 = z at *
          go_wp2_with (go_at_call 16; refine (C2.out).mono ?_; rintro e w2 ⟨rfl, hb2⟩)
          go_roundw
          case rel => exact ⟨k + 1, by omega, by go_num, by rw [HT.out, ← str_app]; simp, HB.out.trans (hb2.mono HB.out.size)⟩
          case measure => simp [intOf]; omega
        · obtain rfl : k = l.length := by omega
          have HB := Lib.hid hb
          clear hlt hk hb
          go_wp2_with fail
          go_ret
          exact ⟨by rw [HF.out, List.take_length]; rfl, HB.out⟩
theorem specFormatServers (b : Nat) (v : Value) (l : List Int) (w : World) (h : l.length ≤ 4194304) (o : OwnI b w v l) :
    Calls Tryd.prog 17 #[v] w fun e w' => e = .returned (str (fmtS l)) ∧ Below w.heap.size w w' := by
  obtain ⟨a, c, rfl, _, _, at1, _⟩ := o.form
  exact specFmt_any a c l w h at1
set_option maxRecDepth 100000 in
theorem implFmt_any (a : Option Addr) (c : Nat) (l : List Int) (w : World) (hl : l.length ≤ 4194304) (ha : At w a l) :
    Calls Tryd.prog 39 #[.slice a l.length c] w fun e w' => e = .returned (str (fmtS l)) ∧ Below w.heap.size w w' := by
  have C1 := Lib.hid (implAre_any a c l w hl ha)
  have HA := Lib.hid ha
  clear ha
  cases he : are l
  · rw [he] at C1
    have HF := Lib.hid (show fmtS l = [] by unfold fmtS; rw [he]; rfl)
    clear he
    go_enter Tryd.func39, Tryd.ntmps39
    go_wp2_with (go_at_call 50; refine (C1.out).mono ?_; rintro e w1 ⟨rfl, hd⟩)
    go_ret
    exact ⟨by rw [HF.out]; rfl, hd⟩
  · rw [he] at C1
    by_cases h0 : l.length = 0
    · have HF := Lib.hid (show fmtS l = [110, 111, 110, 101] by unfold fmtS; rw [he, if_pos rfl, if_pos h0])
      clear he
      obtain rfl : l = [] := List.eq_nil_of_length_eq_zero h0
      go_enter Tryd.func39, Tryd.ntmps39
      go_wp2_with (go_at_call 50; refine (C1.out).mono ?_; rintro e w1 ⟨rfl, hd⟩)
      go_ret
      exact ⟨by rw [HF.out]; rfl, hd⟩
    · have HF := Lib.hid (show fmtS l = digs l by unfold fmtS; rw [he, if_pos rfl, if_neg h0])
      have HL := Lib.hid (are_lt he)
      have h5 := are_len he
      have g0 : ((l.length : Int) == 0) = false := by rw [beq_eq_false_iff_ne]; omega
      have hmk : ∀ W : World, (Instr.makeSlice 59 (.int .i64 0) (.int .i64 5)).run Tryd.prog W = .ok (.slice (some ⟨W.heap.size, 0, none⟩) 0 5) (W.alloc (.cells (madeCells #[.int .u8 0] 5) 5)) := fun _ => by kernel_rfl
      clear he
      go_enter Tryd.func39, Tryd.ntmps39
      go_wp2_with (go_at_call 50; refine (C1.out).mono ?_; rintro e w1 ⟨rfl, hd⟩)
      have HB1 := Lib.hid hd
      have hz1 := hd.size
      clear hd g0 hmk
      go_loopw [3, 15] (fun s i wr => ∃ k : Nat, k ≤ l.length ∧ i = .int .i64 k ∧ OwnB 5 w.heap.size wr s (digs (l.take k)) ∧ Below w.heap.size w wr) (fun _ i _ => l.length - (intOf i).toNat)
      case atStart => exact ⟨0, Nat.zero_le _, rfl, World.ownsRow_made _ _ 5 (by omega) (by unfold maxLen; omega) (by simp [size_madeCells]), HB1.out.alloc hz1 _⟩
      case round =>
        obtain ⟨k, hk, rfl, hown, hb⟩ := hrel
        by_cases hlt : k < l.length
        · obtain ⟨p, rfl, hp, hc⟩ := HA.out k hlt
          have hc' : wr.cell? (p.add k) = some (.int .i64 (l.getD k 0)) := (hb.cell (p := p.add k) (by unfold Addr.add; split <;> exact hp)).trans hc
          obtain ⟨hx0, hx1⟩ := HL.out k hlt
          have HT := Lib.hid (digs_snoc l k hlt)
          have hlen : (digs (l.take k)).length ≤ 5 := by rw [digs_length, List.length_take]; omega
          have HB := Lib.hid hb
          have hs := hb.size
          obtain ⟨z, hz⟩ := Int.eq_ofNat_of_zero_le (show 0 ≤ l.getD k 0 by omega)
          rw [hz] at hc' HT hx1
          have hw0 : IntKind.i64.wrap (48 + (z : Int)) = 48 + z := IntWalk.i64_in _ (by omega)
          have hw1 : IntKind.u8.wrap (48 + (z : Int)) = 48 + z := IntWalk.u8_in _ (by omega)
          clear hc hb hx0 hz
          go_wp2_with (at_builtin; refine wpList_push1 rfl _ _ 59 rfl w.heap.size 5 (.int .u8 0) 1 Tryd.underlying59 infoU8b rfl _ _ _ rfl hown.row _ 1 rfl (by rfl) (by omega) (by omega) hs ?_; intro v' w2 hown' hb2 hg2)
          go_roundw
          case rel => exact ⟨k + 1, by omega, by go_num, by rw [HT.out]; exact OwnB.snoc hown' (by simp; omega), HB.out.trans hb2⟩
          case measure => simp [intOf]; omega
        · obtain rfl : k = l.length := by omega
          rw [List.take_length] at hown
          have hcv := hown.conv (dst := 9) Tryd.underlying59 Tryd.underlying5 Tryd.underlying9
          have HB := Lib.hid hb
          clear hlt hk hb
          go_wp2_with fail
          go_ret
          exact ⟨by rw [HF.out]; rfl, HB.out⟩
theorem implFormatServers (b : Nat) (v : Value) (l : List Int) (w : World) (h : l.length ≤ 4194304) (o : OwnI b w v l) :
    Calls Tryd.prog 39 #[v] w fun e w' => e = .returned (str (fmtS l)) ∧ Below w.heap.size w w' := by
  obtain ⟨a, c, rfl, _, _, at1, _⟩ := o.form
  exact implFmt_any a c l w h at1
end Go.Proofs.YtmojigimlhjphaaDoor.kit
