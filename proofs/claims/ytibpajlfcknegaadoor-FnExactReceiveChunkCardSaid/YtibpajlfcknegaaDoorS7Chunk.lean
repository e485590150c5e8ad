/-
  Chapter 7: a chunk's text: what spec's l7Chunk and impl's method chunk return.
-/
import Derived.Test.YtibpajlfcknegaaDoorS7Enc
import Derived.Test.YtibpajlfcknegaaDoorLater
namespace Go.Proofs.YtibpajlfcknegaaDoor.kit
open Go.ChangeShapes Go.WideShapes Go.ChangeAt Go.RowKit
set_option linter.unusedVariables false

theorem toL_len (d : ByteArray) : d.data.toList.length = d.size := by rw [Array.length_toList]; rfl
theorem ba_eta (d : ByteArray) : (⟨d.data.toList.toArray⟩ : ByteArray) = d := by apply ByteArray.ext; simp
theorem mk_size (l : List UInt8) : (⟨l.toArray⟩ : ByteArray).size = l.length := by simp [ByteArray.size]
theorem extL (s : ByteArray) (a b : Nat) : (s.extract a b).data.toList = (s.data.toList.drop a).take (b - a) := Lib.extract_data s a b
theorem ext_mk {s : ByteArray} {a b : Nat} {d : List UInt8} (h : (s.extract a b).data.toList = d) : Value.string (s.extract a b) = str d := by
  unfold str
  congr 1
  apply ByteArray.ext
  apply Array.ext'
  rw [h]
set_option maxRecDepth 100000 in
set_option maxHeartbeats 2000000 in
theorem specChunk (i n : Int) (d : ByteArray) (w : World) (h0 : 0 ≤ i) (h1 : i ≤ 1000000000) (h2 : 0 ≤ n) (h3 : n ≤ 1000000000) (hd : d.size ≤ 1048576) :
    Calls Tryd.prog 58 #[.int .i64 i, .int .i64 n, .string d] w fun e w' => e = .returned (.string ⟨(chunkL i n d.data.toList).toArray⟩) ∧ Below w.heap.size w w' := by
  have hdl := toL_len d
  have lx := itoa_le i (by omega) (by omega)
  have ly := itoa_le n (by omega) (by omega)
  have hcon : (((((⟨(Lib.itoa i).toArray⟩ : ByteArray) ++ (⟨#[47]⟩ : ByteArray)) ++ (⟨(Lib.itoa n).toArray⟩ : ByteArray)) ++ (⟨#[58]⟩ : ByteArray)) ++ d) = ⟨(conL i n d.data.toList).toArray⟩ := by
    apply ByteArray.ext; apply Array.ext'; unfold conL; simp
  have hcl := conL_len (d := d.data.toList) h0 h1 h2 h3
  have hch : chunkL i n d.data.toList = conL i n d.data.toList ++ [35] ++ Lib.itoa (cksum (conL i n d.data.toList)) := rfl
  have HCH := Lib.hid hch
  have hck := cksum_in (conL i n d.data.toList)
  have lz := itoa_le (cksum (conL i n d.data.toList)) (by omega) (by omega)
  have j3 : ∀ W, Calls Tryd.prog 77 #[.string ⟨(conL i n d.data.toList).toArray⟩] W fun e w' => e = .returned (.int .i64 (cksum (conL i n d.data.toList))) ∧ Below W.heap.size W w' := fun W => by
    have := specChecksum ⟨(conL i n d.data.toList).toArray⟩ W (by rw [mk_size]; omega)
    simpa using this
  generalize cksum (conL i n d.data.toList) = ck at *
  have j1 := fun W => specFormatInt i W (by omega) (by omega)
  have j2 := fun W => specFormatInt n W (by omega) (by omega)
  have j4 := fun W => specFormatInt ck W (by omega) (by omega)
  generalize conL i n d.data.toList = cn at *
  generalize Lib.itoa i = fx at *
  generalize Lib.itoa n = fy at *
  generalize Lib.itoa ck = fz at *
  have e0 : ¬ (9223372036854775807 < fx.length + 1) := by omega
  have e1 : ¬ (9223372036854775807 < fx.length + 1 + fy.length) := by omega
  have e2 : ¬ (9223372036854775807 < fx.length + 1 + fy.length + 1) := by omega
  have e3 : ¬ (9223372036854775807 < fx.length + 1 + fy.length + 1 + d.size) := by omega
  have e4 : ¬ (9223372036854775807 < cn.length + 1) := by omega
  have e5 : ¬ (9223372036854775807 < cn.length + 1 + fz.length) := by omega
  have J1 := Lib.hid j1
  have J2 := Lib.hid j2
  have J3 := Lib.hid j3
  have J4 := Lib.hid j4
  have HC := Lib.hid hcon
  clear j1 j2 j3 j4 hcon hch hck
  go_enter Tryd.func58, Tryd.ntmps58
  go_wp2_with fail
  refine (J1.out _).mono ?_
  rintro e w1 ⟨rfl, hb1⟩
  go_wp2_with fail
  refine (J2.out _).mono ?_
  rintro e w2 ⟨rfl, hb2⟩
  go_wp2_with fail
  rw [HC.out]
  refine (J3.out _).mono ?_
  rintro e w3 ⟨rfl, hb3⟩
  go_wp2_with fail
  refine (J4.out _).mono ?_
  rintro e w4 ⟨rfl, hb4⟩
  have HZ := Lib.hid (((hb1.trans (hb2.mono hb1.size)).trans (hb3.mono (Nat.le_trans hb1.size hb2.size))).trans (hb4.mono (Nat.le_trans hb1.size (Nat.le_trans hb2.size hb3.size))))
  clear hb1 hb2 hb3 hb4
  go_wp2_with fail
  go_ret
  exact ⟨by rw [HCH.out]; exact congrArg (fun z => Ending.returned (Value.string z)) (by apply ByteArray.ext; apply Array.ext'; simp), HZ.out⟩
set_option maxRecDepth 100000 in
set_option maxHeartbeats 2000000 in
theorem implChunk (i n : Int) (d : ByteArray) (w : World) (h0 : 0 ≤ i) (h1 : i ≤ 1000000000) (h2 : 0 ≤ n) (h3 : n ≤ 1000000000) (hd : d.size ≤ 1048576) (hT : Tab w) :
    Calls Tryd.prog 61 #[.agg #[.int .i64 i, .int .i64 n, .string d]] w fun e w' => e = .returned (.string ⟨(chunkL i n d.data.toList).toArray⟩) ∧ Below w.heap.size w w' := by
  have hdl := toL_len d
  have lx := itoa_le i (by omega) (by omega)
  have ly := itoa_le n (by omega) (by omega)
  have hcon : (((((⟨(Lib.itoa i).toArray⟩ : ByteArray) ++ (⟨#[47]⟩ : ByteArray)) ++ (⟨(Lib.itoa n).toArray⟩ : ByteArray)) ++ (⟨#[58]⟩ : ByteArray)) ++ d) = ⟨(conL i n d.data.toList).toArray⟩ := by
    apply ByteArray.ext; apply Array.ext'; unfold conL; simp
  have hcl := conL_len (d := d.data.toList) h0 h1 h2 h3
  have hch : chunkL i n d.data.toList = conL i n d.data.toList ++ [35] ++ Lib.itoa (cksum (conL i n d.data.toList)) := rfl
  have HCH := Lib.hid hch
  have hck := cksum_in (conL i n d.data.toList)
  have lz := itoa_le (cksum (conL i n d.data.toList)) (by omega) (by omega)
  have j3 : ∀ W, Calls Tryd.prog 80 #[.string ⟨(conL i n d.data.toList).toArray⟩] W fun e w' => e = .returned (.int .i64 (cksum (conL i n d.data.toList))) ∧ Below W.heap.size W w' := fun W => by
    have := implChecksum ⟨(conL i n d.data.toList).toArray⟩ W (by rw [mk_size]; omega)
    simpa using this
  generalize cksum (conL i n d.data.toList) = ck at *
  have j1 := fun W (t : Tab W) => implFormatInt i W (by omega) (by omega) t
  have j2 := fun W (t : Tab W) => implFormatInt n W (by omega) (by omega) t
  have j4 := fun W (t : Tab W) => implFormatInt ck W (by omega) (by omega) t
  generalize conL i n d.data.toList = cn at *
  generalize Lib.itoa i = fx at *
  generalize Lib.itoa n = fy at *
  generalize Lib.itoa ck = fz at *
  have e0 : ¬ (9223372036854775807 < fx.length + 1) := by omega
  have e1 : ¬ (9223372036854775807 < fx.length + 1 + fy.length) := by omega
  have e2 : ¬ (9223372036854775807 < fx.length + 1 + fy.length + 1) := by omega
  have e3 : ¬ (9223372036854775807 < fx.length + 1 + fy.length + 1 + d.size) := by omega
  have e4 : ¬ (9223372036854775807 < cn.length + 1) := by omega
  have e5 : ¬ (9223372036854775807 < cn.length + 1 + fz.length) := by omega
  have J1 := Lib.hid j1
  have J2 := Lib.hid j2
  have J3 := Lib.hid j3
  have J4 := Lib.hid j4
  have HC := Lib.hid hcon
  have HT := Lib.hid hT
  clear hT
  clear j1 j2 j3 j4 hcon hch hck
  have hB : Below w.heap.size w (w.alloc (.cells #[.int .i64 i, .int .i64 n, .string d] 69)) := (Below.refl _ _).alloc (Nat.le_refl _) _
  have HB := Lib.hid hB
  have R1 : ∀ p : LaterOf (w.alloc (.cells #[.int .i64 i, .int .i64 n, .string d] 69)), Hid _ := fun p => Lib.hid (J1.out p.W ((HT.out.below HB.out).below p.h))
  have R2 : ∀ p : LaterOf (w.alloc (.cells #[.int .i64 i, .int .i64 n, .string d] 69)), Hid _ := fun p => Lib.hid (J2.out p.W ((HT.out.below HB.out).below p.h))
  have q0 := LaterOf.cell (w := w.alloc (.cells #[.int .i64 i, .int .i64 n, .string d] 69)) (a := ⟨w.heap.size, 0, none⟩) (v := .int .i64 i) (by simp) (by rw [World.cell?_alloc_at _ _ _ _ rfl]; rfl)
  have q1 := LaterOf.cell (w := w.alloc (.cells #[.int .i64 i, .int .i64 n, .string d] 69)) (a := ⟨w.heap.size, 1, none⟩) (v := .int .i64 n) (by simp) (by rw [World.cell?_alloc_at _ _ _ _ rfl]; rfl)
  have q2 := LaterOf.cell (w := w.alloc (.cells #[.int .i64 i, .int .i64 n, .string d] 69)) (a := ⟨w.heap.size, 2, none⟩) (v := .string d) (by simp) (by rw [World.cell?_alloc_at _ _ _ _ rfl]; rfl)
  clear J1 J2 hB
  go_enter Tryd.func61, Tryd.ntmps61
  go_upto_region 1 with (fail)
  refine wp_region_later (by kernel_rfl) (by kernel_rfl) ?_
  repeat (go_big_quiet_step (first | (with_reducible exact Calls.later_of (R1 _).out) | (with_reducible exact Calls.later_of (R2 _).out)))
  refine wpQuiet_nil ?_
  intro _ hw'
  obtain ⟨⟨wz, hwz⟩, hw''⟩ := hw'
  subst hw''
  have HZ1 := Lib.hid (HB.out.trans (hwz.mono HB.out.size))
  clear hwz q0 q1 q2 R1 R2
  go_wp2_with fail
  rw [HC.out]
  refine (J3.out _).mono ?_
  rintro e w3 ⟨rfl, hb3⟩
  have HZ3 := Lib.hid (HZ1.out.trans (hb3.mono HZ1.out.size))
  clear hb3
  go_wp2_with fail
  refine (J4.out _ (HT.out.below HZ3.out)).mono ?_
  rintro e w4 ⟨rfl, hb4⟩
  have HZ := Lib.hid (HZ3.out.trans (hb4.mono HZ3.out.size))
  clear hb4
  go_wp2_with fail
  go_ret
  exact ⟨by rw [HCH.out]; exact congrArg (fun z => Ending.returned (Value.string z)) (by apply ByteArray.ext; apply Array.ext'; simp), HZ.out⟩
end Go.Proofs.YtibpajlfcknegaaDoor.kit
