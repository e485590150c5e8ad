/-
  Chapter 4: spec's ApplyOp: what the walk of the operation performed leans on.
-/
import Derived.Test.YtgjebjoaemeeoaaGreatDoorS4SpecA
import Derived.Test.YtgjebjoaemeeoaaGreatDoorLast
namespace Go.Proofs.YtgjebjoaemeeoaaGreatDoor.kit
open Go.ChangeShapes Go.WideShapes Go.ChangeAt Go.RowKit Go.Maps
set_option linter.unusedVariables false

/-- .. behind the store of an object of the copy -/
theorem midS_setO {B X gu cap : Nat} {w W : World} {y1 y2 u2 : Value} {c s k o d v : Int} {L1 : List Int} {L2 : List Sess} (h : MidS B X w W y1 y2 (.slice (some ⟨gu, 0, none⟩) L1.length cap) u2 c s k o d v L1 L2) (n : Nat) (hn : n < L1.length) (x : Int) :
    MidS B X w (W.setCell ⟨gu, n, none⟩ (.int .i64 x)) y1 y2 (.slice (some ⟨gu, 0, none⟩) L1.length cap) u2 c s k o d v (L1.set n x) L2 := by
  have hX := h.hX
  have hg := h.o1.block gu rfl
  have hgX := h.b1 gu rfl
  have st := h.o1.storedAt n hn x
  have hc : ∀ b q, b ≠ gu → (W.setCell ⟨gu, n, none⟩ (.int .i64 x)).cell? ⟨b, q, none⟩ = W.cell? ⟨b, q, none⟩ := fun b q hq => World.cell?_setCell_other W _ _ _ (by simp <;> omega)
  have hf : ∀ b q, (W.setCell ⟨gu, n, none⟩ (.int .i64 x)).frozen? ⟨b, q, none⟩ = W.frozen? ⟨b, q, none⟩ := fun b q => by go_simp
  have ho1 : OwnI (B + 4) (W.setCell ⟨gu, n, none⟩ (.int .i64 x)) (.slice (some ⟨gu, 0, none⟩) L1.length cap) (L1.set n x) := st.1
  exact { hX := hX, sz := by have := h.sz; simpa using this, m0 := (hc _ _ (by omega)).trans h.m0, m1 := (hc _ _ (by omega)).trans h.m1, p0 := (hc _ _ (by omega)).trans h.p0, p1 := (hc _ _ (by omega)).trans h.p1, p2 := (hc _ _ (by omega)).trans h.p2,
          p3 := (hc _ _ (by omega)).trans h.p3, p4 := (hc _ _ (by omega)).trans h.p4, p5 := (hc _ _ (by omega)).trans h.p5, a0 := (hc _ _ (by omega)).trans h.a0, a1 := (hc _ _ (by omega)).trans h.a1, r0 := (hc _ _ (by omega)).trans h.r0, r1 := (hc _ _ (by omega)).trans h.r1,
          x0 := (hc _ _ (by omega)).trans h.x0, x1 := (hc _ _ (by omega)).trans h.x1, f2 := fun q => (hf _ _).trans (h.f2 q), f3 := fun q => (hf _ _).trans (h.f3 q), fx := fun q => (hf _ _).trans (h.fx q),
          o1 := ho1, o2 := h.o2.marked (v := .slice (some ⟨gu, 0, none⟩) L1.length cap) st.2 (fun g a b => own_apart h.o1 h.o2 g a b), b1 := h.b1,
          bl := h.bl.setCell (p := ⟨gu, n, none⟩) (by show B ≤ gu; omega) _ }
theorem MidS.drewN {B X : Nat} {w W : World} {y1 y2 u1 u2 : Value} {c s k o d v : Int} {L1 : List Int} {L2 : List Sess} (h : MidS B X w W y1 y2 u1 u2 c s k o d v L1 L2) (q : Nat) : MidS B X w (W.drewN q) y1 y2 u1 u2 c s k o d v L1 L2 :=
  h.later (below_drewN (Below.refl _ _) q)
theorem SrcS.nilAt {B g o c : Nat} {w : World} (hg : g < B) {l : List Sess} (hl : l = []) : SrcS B w (.slice (some ⟨g, o, none⟩) 0 c) l := by
  subst hl; exact .inr ⟨g, o, c, rfl, hg, fun j hj => by simp at hj⟩
theorem src_drop {B : Nat} {w : World} {a : Option Addr} {cap k : Nat} {L : List Sess} (h : SrcS B w (.slice a L.length cap) L) (hk : k ≤ L.length) (hc : L.length ≤ cap) : SrcS B w (sliced a k L.length cap 4) (L.drop k) := by
  rcases h with ⟨h1, h2⟩ | ⟨g, o, c, h1, h2, h3⟩
  · subst h2
    injection h1 with e1 e2 e3
    subst e1 e3
    have : k = 0 := by simpa using hk
    subst this
    exact .inl ⟨rfl, rfl⟩
  · injection h1 with e1 _ e3
    subst e1 e3
    unfold sliced
    by_cases e : cap = k
    · have : k = L.length := by omega
      subst this
      rw [if_pos e, Nat.sub_self]
      exact SrcS.nilAt h2 (by simp)
    · rw [if_neg e, Option.map_some, add_mk]
      exact SrcS.drop (c := cap) h2 h3 hk rfl rfl
theorem src_take {B : Nat} {w : World} {a : Option Addr} {cap k : Nat} {L : List Sess} (h : SrcS B w (.slice a L.length cap) L) (hk : k ≤ L.length) (hc : L.length ≤ cap) : SrcS B w (sliced a 0 k cap 4) (L.take k) := by
  rcases h with ⟨h1, h2⟩ | ⟨g, o, c, h1, h2, h3⟩
  · subst h2
    injection h1 with e1 e2 e3
    subst e1 e3
    have : k = 0 := by simpa using hk
    subst this
    exact .inl ⟨rfl, rfl⟩
  · injection h1 with e1 _ e3
    subst e1 e3
    unfold sliced
    by_cases e : cap = 0
    · have : k = 0 := by omega
      subst this
      rw [if_pos e, Nat.sub_self]
      exact SrcS.nilAt h2 (by simp)
    · rw [if_neg e, Option.map_some, add_mk, Nat.zero_mul, Nat.add_zero, Nat.sub_zero]
      exact SrcS.take h2 h3 hk
theorem SrcS.grown {B : Nat} {w w' : World} {sv : Value} {l : List Sess} {row : Option Nat} (h : SrcS B w sv l) (hg : w.grownBy w' row) (hB : B ≤ w.heap.size) (hr : ∀ g ad n c, row = some g → sv = .slice (some ad) n c → ad.block ≠ g) : SrcS B w' sv l := by
  rcases h with h | ⟨g, o, c, h1, h2, h3⟩
  · exact .inl h
  · refine .inr ⟨g, o, c, h1, h2, fun j hj => ?_⟩
    have hb : w'.heap[g]? = w.heap[g]? := hg.block _ (by omega) (fun e => hr _ _ _ _ e.symm h1 rfl)
    have hc := fun q => World.cell?_of_block (a := ⟨g, q, none⟩) hb
    obtain ⟨c0, c1, c2, c3⟩ := h3 j hj
    exact ⟨(hc _).trans c0, (hc _).trans c1, (hc _).trans c2, (hc _).trans c3⟩
theorem run_from (W : World) (a : Option Addr) (n cap k : Nat) (hk : k ≤ n) : (Instr.slice 42 (.slice a n cap) (some (.int .i64 (k : Int))) none none).run Tryz.prog W = .ok (sliced a k n cap 4) W := by
  rw [run_slice_l (P := Tryz.prog) W 42 a n cap (by kernel_rfl) .i64 (k : Int) (by omega) (by omega)]
  have hs : (sizeOf (Tryz.prog.elem 42)).run Tryz.prog W = .ok 4 W := by kernel_rfl
  rw [hs]
  rfl
theorem run_upto (W : World) (a : Option Addr) (n cap k : Nat) (hk : k ≤ cap) : (Instr.slice 42 (.slice a n cap) none (some (.int .i64 (k : Int))) none).run Tryz.prog W = .ok (sliced a 0 k cap 4) W := by
  rw [run_slice_h (P := Tryz.prog) W 42 a n cap (by kernel_rfl) .i64 (k : Int) (by omega) (by omega)]
  have hs : (sizeOf (Tryz.prog.elem 42)).run Tryz.prog W = .ok 4 W := by kernel_rfl
  rw [hs]
  rfl
/-- .. behind a new list of sessions, stored into the copy -/
theorem midS_put {B X : Nat} {w W W3 : World} {y1 y2 u1 u2 v3 : Value} {c s k o d v : Int} {L1 : List Int} {L2 l : List Sess} (h : MidS B X w W y1 y2 u1 u2 c s k o d v L1 L2) (hb : Below W.heap.size W W3) (ho : OwnS W.heap.size W3 v3 l) :
    MidS B X w (W3.setCell ⟨X, 1, none⟩ v3) y1 y2 u1 v3 c s k o d v L1 l := by
  have h3 := h.later hb
  have hX := h.hX
  have hsz := h.sz
  have hc : ∀ b q, b ≠ X → (W3.setCell ⟨X, 1, none⟩ v3).cell? ⟨b, q, none⟩ = W3.cell? ⟨b, q, none⟩ := fun b q hq => World.cell?_of_block (a := ⟨b, q, none⟩) (Below.heap_setCell _ _ _ _ (by simpa using hq))
  have hf : ∀ b q, (W3.setCell ⟨X, 1, none⟩ v3).frozen? ⟨b, q, none⟩ = W3.frozen? ⟨b, q, none⟩ := fun b q => by go_simp
  have x1 := h3.x1
  have x0 := h3.x0
  exact { hX := hX, sz := by have := h3.sz; simpa using this, m0 := (hc _ _ (by omega)).trans h3.m0, m1 := (hc _ _ (by omega)).trans h3.m1, p0 := (hc _ _ (by omega)).trans h3.p0, p1 := (hc _ _ (by omega)).trans h3.p1, p2 := (hc _ _ (by omega)).trans h3.p2,
          p3 := (hc _ _ (by omega)).trans h3.p3, p4 := (hc _ _ (by omega)).trans h3.p4, p5 := (hc _ _ (by omega)).trans h3.p5, a0 := (hc _ _ (by omega)).trans h3.a0, a1 := (hc _ _ (by omega)).trans h3.a1, r0 := (hc _ _ (by omega)).trans h3.r0, r1 := (hc _ _ (by omega)).trans h3.r1,
          x0 := by go_simp, x1 := by go_simp, f2 := fun q => (hf _ _).trans (h3.f2 q), f3 := fun q => (hf _ _).trans (h3.f3 q), fx := fun q => (hf _ _).trans (h3.fx q),
          o1 := ownsRow_setCell_other h3.o1 (fun e => by have := h3.b1 X e; omega) _, o2 := OwnS.mono (OwnS.setBelow ho (a := ⟨X, 1, none⟩) (by show X < W.heap.size; omega) _) (by omega), b1 := h3.b1,
          bl := h3.bl.setCell (p := ⟨X, 1, none⟩) (by show B ≤ X; omega) _ }
theorem s19_alloc {a b c' d' : Addr} {x y z t : Value} {W : World} (h : W.cell? a = some x ∧ W.cell? b = some y ∧ W.cell? c' = some z ∧ W.cell? d' = some t) (o : Obj) : (W.alloc o).cell? a = some x ∧ (W.alloc o).cell? b = some y ∧ (W.alloc o).cell? c' = some z ∧ (W.alloc o).cell? d' = some t := by
  obtain ⟨h1, h2, h3, h4⟩ := h
  have hb := (Below.refl W.heap.size W).alloc (Nat.le_refl _) o
  exact ⟨(hb.cell (World.block_lt_of_cell? W _ h1)).trans h1, (hb.cell (World.block_lt_of_cell? W _ h2)).trans h2, (hb.cell (World.block_lt_of_cell? W _ h3)).trans h3, (hb.cell (World.block_lt_of_cell? W _ h4)).trans h4⟩
theorem s19_drew {a b c' d' : Addr} {x y z t : Value} {W : World} (h : W.cell? a = some x ∧ W.cell? b = some y ∧ W.cell? c' = some z ∧ W.cell? d' = some t) : W.drew.cell? a = some x ∧ W.drew.cell? b = some y ∧ W.drew.cell? c' = some z ∧ W.drew.cell? d' = some t := h
theorem s19_allocd {a b c' d' : Addr} {x y z t : Value} {W : World} (h : W.drew.cell? a = some x ∧ W.drew.cell? b = some y ∧ W.drew.cell? c' = some z ∧ W.drew.cell? d' = some t) (o : Obj) : (W.alloc o).drew.cell? a = some x ∧ (W.alloc o).drew.cell? b = some y ∧ (W.alloc o).drew.cell? c' = some z ∧ (W.alloc o).drew.cell? d' = some t := s19_alloc (W := W) h o
theorem s19_below {a b c' d' : Addr} {x y z t : Value} {W W' : World} {N : Nat} (h : W.cell? a = some x ∧ W.cell? b = some y ∧ W.cell? c' = some z ∧ W.cell? d' = some t) (hb : Below N W W') (hn : Hid (a.block < N ∧ b.block < N ∧ c'.block < N ∧ d'.block < N)) : W'.cell? a = some x ∧ W'.cell? b = some y ∧ W'.cell? c' = some z ∧ W'.cell? d' = some t := by
  obtain ⟨h1, h2, h3, h4⟩ := h
  obtain ⟨n1, n2, n3, n4⟩ := hn.out
  exact ⟨(hb.cell n1).trans h1, (hb.cell n2).trans h2, (hb.cell n3).trans h3, (hb.cell n4).trans h4⟩
theorem s19_store {a b c' d' : Addr} {x y z t : Value} {W : World} {X : Nat} (h : W.cell? a = some x ∧ W.cell? b = some y ∧ W.cell? c' = some z ∧ W.cell? d' = some t) (hn : Hid (a.block ≠ X ∧ b.block ≠ X ∧ c'.block ≠ X ∧ d'.block ≠ X)) (v : Value) :
    (W.setCell ⟨X, 1, none⟩ v).cell? a = some x ∧ (W.setCell ⟨X, 1, none⟩ v).cell? b = some y ∧ (W.setCell ⟨X, 1, none⟩ v).cell? c' = some z ∧ (W.setCell ⟨X, 1, none⟩ v).cell? d' = some t := by
  obtain ⟨h1, h2, h3, h4⟩ := h
  obtain ⟨n1, n2, n3, n4⟩ := hn.out
  have hc : ∀ e : Addr, e.block ≠ X → (W.setCell ⟨X, 1, none⟩ v).cell? e = W.cell? e := fun e he => World.cell?_of_block (Below.heap_setCell _ _ _ _ (by simpa using he))
  exact ⟨(hc _ n1).trans h1, (hc _ n2).trans h2, (hc _ n3).trans h3, (hc _ n4).trans h4⟩
theorem litS (w : World) (c s : Int) (D : Bool) (x : Int) : SrcS (w.heap.size + 1) (w.alloc (.cells #[.int .i64 c, .int .i64 s, .bool D, .int .i64 x] 98)) (.slice (some ⟨w.heap.size, 0, none⟩) 1 1) [(c, s, D, x)] := SrcS.lit w (c, s, D, x)
/-- what stands ahead of the first append, by the order of the two new rows -/
structure Two (W8 Wx : World) (r : Nat) : Prop where
  b : Below W8.heap.size W8 Wx
  z : W8.heap.size ≤ Wx.heap.size
  o : OwnS W8.heap.size Wx (.slice (some ⟨r, 0, none⟩) 0 0) []
theorem two_a (W8 : World) : Two W8 (W8.alloc (.cells #[] 98)).drew W8.heap.size := ⟨((Below.refl _ _).alloc (Nat.le_refl _) _).drew, by simp, ownS_new W8 W8.heap.size (Nat.le_refl _)⟩
theorem two_b (W8 : World) (c s : Int) (D : Bool) (x : Int) : Two W8 ((W8.alloc (.cells #[] 98)).alloc (.cells #[.int .i64 c, .int .i64 s, .bool D, .int .i64 x] 98)).drew W8.heap.size :=
  ⟨(((Below.refl _ _).alloc (Nat.le_refl _) _).alloc (by simp) _).drew, by simp; omega, (ownS_new W8 W8.heap.size (Nat.le_refl _)).later ((Below.refl _ _).alloc (Nat.le_refl _) _).drew⟩
theorem two_c (W8 : World) (c s : Int) (D : Bool) (x : Int) : Two W8 ((W8.alloc (.cells #[.int .i64 c, .int .i64 s, .bool D, .int .i64 x] 98)).alloc (.cells #[] 98)).drew (W8.heap.size + 1) :=
  ⟨(((Below.refl _ _).alloc (Nat.le_refl _) _).alloc (by simp) _).drew, by simp; omega, by have h := ownS_new (W8.alloc (.cells #[.int .i64 c, .int .i64 s, .bool D, .int .i64 x] 98)) W8.heap.size (by simp); simp only [World.size_alloc] at h; exact h⟩
theorem lit_b {W8 w1 : World} {c s : Int} {D : Bool} {x : Int} {k1 k2 : Nat} (hg : ((W8.alloc (.cells #[] 98)).alloc (.cells #[.int .i64 c, .int .i64 s, .bool D, .int .i64 x] 98)).drew.grownBy w1 (Value.slice (some ⟨W8.heap.size, 0, none⟩) k1 k2).ownBlock) : SrcS (W8.heap.size + 2) w1 (.slice (some ⟨W8.heap.size + 1, 0, none⟩) 1 1) [(c, s, D, x)] := by
  have h := litS (W8.alloc (.cells #[] 98)) c s D x
  simp only [World.size_alloc] at h
  exact SrcS.grown (w := ((W8.alloc (.cells #[] 98)).alloc (.cells #[.int .i64 c, .int .i64 s, .bool D, .int .i64 x] 98)).drew) (h.below (Below.refl _ _).drew (Nat.le_refl _)) hg (by simp) (fun g ad n c' e1 e2 => by cases e1; cases e2; simp)
theorem lit_c {W8 w1 : World} {c s : Int} {D : Bool} {x : Int} {k1 k2 : Nat} (hg : ((W8.alloc (.cells #[.int .i64 c, .int .i64 s, .bool D, .int .i64 x] 98)).alloc (.cells #[] 98)).drew.grownBy w1 (Value.slice (some ⟨W8.heap.size + 1, 0, none⟩) k1 k2).ownBlock) : SrcS (W8.heap.size + 1) w1 (.slice (some ⟨W8.heap.size, 0, none⟩) 1 1) [(c, s, D, x)] := by
  have h := (litS W8 c s D x).below ((Below.refl _ _).alloc (by simp) (.cells #[] 98) : Below (W8.heap.size + 1) (W8.alloc (.cells #[.int .i64 c, .int .i64 s, .bool D, .int .i64 x] 98)) _) (Nat.le_refl _)
  exact SrcS.grown (w := ((W8.alloc (.cells #[.int .i64 c, .int .i64 s, .bool D, .int .i64 x] 98)).alloc (.cells #[] 98)).drew) (h.below (Below.refl _ _).drew (Nat.le_refl _)) hg (by simp) (fun g ad n c' e1 e2 => by cases e1; cases e2; simp)
theorem size_up (w : World) (o : Obj) : w.heap.size ≤ (w.alloc o).heap.size := by simp
theorem len_a (L : List Sess) (q : Nat) (h : L.length ≤ 4194304) : ([] : List Sess).length + (L.take q).length ≤ 100000000000 := by simp; omega
theorem len_b (L : List Sess) (q : Nat) (y : Sess) (h : L.length ≤ 4194304) : ([] ++ L.take q).length + [y].length ≤ 100000000000 := by simp; omega
theorem len_c (L : List Sess) (q q' : Nat) (y : Sess) (h : L.length ≤ 4194304) : (([] ++ L.take q) ++ [y]).length + (L.drop q').length ≤ 100000000000 := by simp; omega
theorem s5_below {B R X N : Nat} {v0 v1 v2 v3 v4 : Value} {W W' : World} (h : W.cell? ⟨B, 0, none⟩ = some v0 ∧ W.cell? ⟨B, 1, none⟩ = some v1 ∧ W.cell? ⟨R, 0, none⟩ = some v2 ∧ W.cell? ⟨R, 1, none⟩ = some v3 ∧ W.cell? ⟨X, 1, none⟩ = some v4) (hb : Below N W W') (hn : Hid (B < N ∧ R < N ∧ X < N)) :
    W'.cell? ⟨B, 0, none⟩ = some v0 ∧ W'.cell? ⟨B, 1, none⟩ = some v1 ∧ W'.cell? ⟨R, 0, none⟩ = some v2 ∧ W'.cell? ⟨R, 1, none⟩ = some v3 ∧ W'.cell? ⟨X, 1, none⟩ = some v4 := by
  obtain ⟨h0, h1, h2, h3, h4⟩ := h
  obtain ⟨n1, n2, n3⟩ := hn.out
  exact ⟨(hb.cell (p := ⟨B, 0, none⟩) n1).trans h0, (hb.cell (p := ⟨B, 1, none⟩) n1).trans h1, (hb.cell (p := ⟨R, 0, none⟩) n2).trans h2, (hb.cell (p := ⟨R, 1, none⟩) n2).trans h3, (hb.cell (p := ⟨X, 1, none⟩) n3).trans h4⟩
end Go.Proofs.YtgjebjoaemeeoaaGreatDoor.kit
