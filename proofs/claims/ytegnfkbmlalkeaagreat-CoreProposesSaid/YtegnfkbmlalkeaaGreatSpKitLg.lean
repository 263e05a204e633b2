/- Logs and entries as values and as cells in memory; rows of entries: what an index, a slice expression, an append gives. Conditions: those that each theorem names. -/
import Derived.Test.YtegnfkbmlalkeaaGreatProg
import Derived.Test.YtegnfkbmlalkeaaGreatSpJ0
set_option linter.unusedVariables false
set_option maxHeartbeats 16000000
set_option maxRecDepth 10000
namespace Go.Proofs.YtegnfkbmlalkeaaGreat.kit
open Go Go.RowKit nums cf lg
def j0 (j : JtL) : Value := .int .u16 (j.a.v : Int)
def j1 (j : JtL) : Value := .int .u16 (j.a.w : Int)
def j2 (j : JtL) : Value := .int .u16 (j.a.l : Int)
def j3 (j : JtL) : Value := .int .i64 j.a.e
def j4 (j : JtL) : Value := .int .i64 j.a.k
def j5 (j : JtL) : Value := .int .u16 (j.b.v : Int)
def j6 (j : JtL) : Value := .int .u16 (j.b.w : Int)
def j7 (j : JtL) : Value := .int .u16 (j.b.l : Int)
def j8 (j : JtL) : Value := .int .i64 j.b.e
def j9 (j : JtL) : Value := .int .i64 j.b.k
def j10 (j : JtL) : Value := .bool j.two
def jV (j : JtL) : Value := .agg #[j0 j, j1 j, j2 j, j3 j, j4 j, j5 j, j6 j, j7 j, j8 j, j9 j, j10 j]
def enC (e : EnL) : List Value := [.int .i64 e.t, .int .i64 e.k, .string e.d, j0 e.j, j1 e.j, j2 e.j, j3 e.j, j4 e.j, j5 e.j, j6 e.j, j7 e.j, j8 e.j, j9 e.j, j10 e.j]
def enV (e : EnL) : Value := .agg #[.int .i64 e.t, .int .i64 e.k, .string e.d, j0 e.j, j1 e.j, j2 e.j, j3 e.j, j4 e.j, j5 e.j, j6 e.j, j7 e.j, j8 e.j, j9 e.j, j10 e.j]
def lgC (l : LgL) (s : Value) : List Value := [.int .i64 l.b, .int .i64 l.t, j0 l.j, j1 l.j, j2 l.j, j3 l.j, j4 l.j, j5 l.j, j6 l.j, j7 l.j, j8 l.j, j9 l.j, j10 l.j, s]
def lgV (l : LgL) (s : Value) : Value := .agg #[.int .i64 l.b, .int .i64 l.t, j0 l.j, j1 l.j, j2 l.j, j3 l.j, j4 l.j, j5 l.j, j6 l.j, j7 l.j, j8 l.j, j9 l.j, j10 l.j, s]
@[go_sem] theorem st_j0 (P : Program) (w : World) (a : Addr) (m : Mode) (x : JtL) : (store a (j0 x) m).run P w = stored P w a (j0 x) m := run_store P w a _ m rfl
@[go_sem] theorem st_j1 (P : Program) (w : World) (a : Addr) (m : Mode) (x : JtL) : (store a (j1 x) m).run P w = stored P w a (j1 x) m := run_store P w a _ m rfl
@[go_sem] theorem st_j2 (P : Program) (w : World) (a : Addr) (m : Mode) (x : JtL) : (store a (j2 x) m).run P w = stored P w a (j2 x) m := run_store P w a _ m rfl
@[go_sem] theorem st_j3 (P : Program) (w : World) (a : Addr) (m : Mode) (x : JtL) : (store a (j3 x) m).run P w = stored P w a (j3 x) m := run_store P w a _ m rfl
@[go_sem] theorem st_j4 (P : Program) (w : World) (a : Addr) (m : Mode) (x : JtL) : (store a (j4 x) m).run P w = stored P w a (j4 x) m := run_store P w a _ m rfl
@[go_sem] theorem st_j5 (P : Program) (w : World) (a : Addr) (m : Mode) (x : JtL) : (store a (j5 x) m).run P w = stored P w a (j5 x) m := run_store P w a _ m rfl
@[go_sem] theorem st_j6 (P : Program) (w : World) (a : Addr) (m : Mode) (x : JtL) : (store a (j6 x) m).run P w = stored P w a (j6 x) m := run_store P w a _ m rfl
@[go_sem] theorem st_j7 (P : Program) (w : World) (a : Addr) (m : Mode) (x : JtL) : (store a (j7 x) m).run P w = stored P w a (j7 x) m := run_store P w a _ m rfl
@[go_sem] theorem st_j8 (P : Program) (w : World) (a : Addr) (m : Mode) (x : JtL) : (store a (j8 x) m).run P w = stored P w a (j8 x) m := run_store P w a _ m rfl
@[go_sem] theorem st_j9 (P : Program) (w : World) (a : Addr) (m : Mode) (x : JtL) : (store a (j9 x) m).run P w = stored P w a (j9 x) m := run_store P w a _ m rfl
@[go_sem] theorem st_j10 (P : Program) (w : World) (a : Addr) (m : Mode) (x : JtL) : (store a (j10 x) m).run P w = stored P w a (j10 x) m := run_store P w a _ m rfl
theorem en_len (x : EnL) : (enC x).length = 14 := rfl
theorem en_one (x : EnL) : ∀ u ∈ enC x, u.oneCell' = true := by
 intro u hu
 simp only [enC, List.mem_cons, List.not_mem_nil, or_false] at hu
 rcases hu with rfl | rfl | rfl | rfl | rfl | rfl | rfl | rfl | rfl | rfl | rfl | rfl | rfl | rfl <;> rfl
theorem flat_one (es : List EnL) : ∀ u ∈ es.flatMap enC, u.oneCell' = true := by
 intro u hu
 obtain ⟨x, _, hx⟩ := List.mem_flatMap.1 hu
 exact en_one x u hx
section
variable {w w' w0 : World} {b o g B : Nat} {E : TypeId} {a0 a1 a2 a3 a4 a5 a6 a7 a8 a9 a10 a11 a12 a13 : Value} (b0 b1 b2 b3 b4 b5 b6 b7 b8 b9 b10 b11 b12 b13 : Value)
theorem at14 (h : At w b o [a0, a1, a2, a3, a4, a5, a6, a7, a8, a9, a10, a11, a12, a13]) : w.cell? ⟨b, o, none⟩ = some a0 ∧ w.cell? ⟨b, o + 1, none⟩ = some a1 ∧ w.cell? ⟨b, o + 2, none⟩ = some a2 ∧ w.cell? ⟨b, o + 3, none⟩ = some a3 ∧ w.cell? ⟨b, o + 4, none⟩ = some a4 ∧ w.cell? ⟨b, o + 5, none⟩ = some a5 ∧ w.cell? ⟨b, o + 6, none⟩ = some a6 ∧ w.cell? ⟨b, o + 7, none⟩ = some a7 ∧ w.cell? ⟨b, o + 8, none⟩ = some a8 ∧ w.cell? ⟨b, o + 9, none⟩ = some a9 ∧ w.cell? ⟨b, o + 10, none⟩ = some a10 ∧ w.cell? ⟨b, o + 11, none⟩ = some a11 ∧ w.cell? ⟨b, o + 12, none⟩ = some a12 ∧ w.cell? ⟨b, o + 13, none⟩ = some a13 :=
 ⟨h 0 _ rfl, h 1 _ rfl, h 2 _ rfl, h 3 _ rfl, h 4 _ rfl, h 5 _ rfl, h 6 _ rfl, h 7 _ rfl, h 8 _ rfl, h 9 _ rfl, h 10 _ rfl, h 11 _ rfl, h 12 _ rfl, h 13 _ rfl⟩
theorem blk14 (h : Blk E w g [a0, a1, a2, a3, a4, a5, a6, a7, a8, a9, a10, a11, a12, a13]) : w.cell? ⟨g, 0, none⟩ = some a0 ∧ w.cell? ⟨g, 1, none⟩ = some a1 ∧ w.cell? ⟨g, 2, none⟩ = some a2 ∧ w.cell? ⟨g, 3, none⟩ = some a3 ∧ w.cell? ⟨g, 4, none⟩ = some a4 ∧ w.cell? ⟨g, 5, none⟩ = some a5 ∧ w.cell? ⟨g, 6, none⟩ = some a6 ∧ w.cell? ⟨g, 7, none⟩ = some a7 ∧ w.cell? ⟨g, 8, none⟩ = some a8 ∧ w.cell? ⟨g, 9, none⟩ = some a9 ∧ w.cell? ⟨g, 10, none⟩ = some a10 ∧ w.cell? ⟨g, 11, none⟩ = some a11 ∧ w.cell? ⟨g, 12, none⟩ = some a12 ∧ w.cell? ⟨g, 13, none⟩ = some a13 :=
 ⟨h.cell 0, h.cell 1, h.cell 2, h.cell 3, h.cell 4, h.cell 5, h.cell 6, h.cell 7, h.cell 8, h.cell 9, h.cell 10, h.cell 11, h.cell 12, h.cell 13⟩
theorem put14 (K : Blk E w g [a0, a1, a2, a3, a4, a5, a6, a7, a8, a9, a10, a11, a12, a13]) : Blk E ((((((((((((((w.setCell ⟨g, 0, none⟩ b0).setCell ⟨g, 1, none⟩ b1).setCell ⟨g, 2, none⟩ b2).setCell ⟨g, 3, none⟩ b3).setCell ⟨g, 4, none⟩ b4).setCell ⟨g, 5, none⟩ b5).setCell ⟨g, 6, none⟩ b6).setCell ⟨g, 7, none⟩ b7).setCell ⟨g, 8, none⟩ b8).setCell ⟨g, 9, none⟩ b9).setCell ⟨g, 10, none⟩ b10).setCell ⟨g, 11, none⟩ b11).setCell ⟨g, 12, none⟩ b12).setCell ⟨g, 13, none⟩ b13) g [b0, b1, b2, b3, b4, b5, b6, b7, b8, b9, b10, b11, b12, b13] := ((((((((((((((K.set_ 0 b0).set_ 1 b1).set_ 2 b2).set_ 3 b3).set_ 4 b4).set_ 5 b5).set_ 6 b6).set_ 7 b7).set_ 8 b8).set_ 9 b9).set_ 10 b10).set_ 11 b11).set_ 12 b12).set_ 13 b13)
theorem below14 (h : Below B w0 w) (hg : B ≤ g) : Below B w0 ((((((((((((((w.setCell ⟨g, 0, none⟩ b0).setCell ⟨g, 1, none⟩ b1).setCell ⟨g, 2, none⟩ b2).setCell ⟨g, 3, none⟩ b3).setCell ⟨g, 4, none⟩ b4).setCell ⟨g, 5, none⟩ b5).setCell ⟨g, 6, none⟩ b6).setCell ⟨g, 7, none⟩ b7).setCell ⟨g, 8, none⟩ b8).setCell ⟨g, 9, none⟩ b9).setCell ⟨g, 10, none⟩ b10).setCell ⟨g, 11, none⟩ b11).setCell ⟨g, 12, none⟩ b12).setCell ⟨g, 13, none⟩ b13) := ((((((((((((((h.setCell (p := ⟨g, 0, none⟩) hg b0).setCell (p := ⟨g, 1, none⟩) hg b1).setCell (p := ⟨g, 2, none⟩) hg b2).setCell (p := ⟨g, 3, none⟩) hg b3).setCell (p := ⟨g, 4, none⟩) hg b4).setCell (p := ⟨g, 5, none⟩) hg b5).setCell (p := ⟨g, 6, none⟩) hg b6).setCell (p := ⟨g, 7, none⟩) hg b7).setCell (p := ⟨g, 8, none⟩) hg b8).setCell (p := ⟨g, 9, none⟩) hg b9).setCell (p := ⟨g, 10, none⟩) hg b10).setCell (p := ⟨g, 11, none⟩) hg b11).setCell (p := ⟨g, 12, none⟩) hg b12).setCell (p := ⟨g, 13, none⟩) hg b13)
end
def RdE (w : World) (B : Nat) (A : Option Addr) (n : Nat) (es : List EnL) : Prop :=
 es.length = n ∧ (0 < n → ∃ b o, A = some ⟨b, o, none⟩ ∧ b < B ∧ ∀ (j : Nat) (x : EnL), es[j]? = some x → At w b (o + j * 14) (enC x))
section
variable {w w' : World} {B B' n : Nat} {A : Option Addr} {es : List EnL}
theorem RdE.len (h : RdE w B A n es) : es.length = n := h.1
theorem RdE.below (h : RdE w B A n es) (hb : Below B w w') : RdE w' B A n es := ⟨h.1, fun hn => by
 obtain ⟨b, o, e, hlt, hc⟩ := h.2 hn
 exact ⟨b, o, e, hlt, fun j x hx => (hc j x hx).below hlt hb⟩⟩
theorem RdE.more (h : RdE w B A n es) (hB : B ≤ B') : RdE w B' A n es := ⟨h.1, fun hn => by
 obtain ⟨b, o, e, hlt, hc⟩ := h.2 hn
 exact ⟨b, o, e, by omega, hc⟩⟩
theorem RdE.on (h : RdE w B A n es) (hb : Below B w w') (hB : B ≤ B') : RdE w' B' A n es := (h.below hb).more hB
theorem RdE.nil (w : World) (B : Nat) (A : Option Addr) : RdE w B A 0 [] := ⟨rfl, fun h => absurd h (by omega)⟩
theorem RdE.at_ (h : RdE w B A n es) {j : Nat} (hj : j < n) : ∃ b o x, A = some ⟨b, o, none⟩ ∧ b < B ∧ es[j]? = some x ∧ At w b (o + j * 14) (enC x) := by
 obtain ⟨b, o, e, hlt, hc⟩ := h.2 (by omega)
 have hl : j < es.length := by rw [h.1]; exact hj
 exact ⟨b, o, es[j], e, hlt, List.getElem?_eq_getElem hl, hc j _ (List.getElem?_eq_getElem hl)⟩
theorem flat_at {b o : Nat} (h : ∀ (j : Nat) (x : EnL), es[j]? = some x → At w b (o + j * 14) (enC x)) : At w b o (es.flatMap enC) := fun q u hu => by
 have hq : q < es.length * 14 := by
  have := (List.getElem?_eq_some_iff.1 hu).1
  rwa [flat_length enC 14 en_len] at this
 have hj : q / 14 < es.length := by omega
 have hx : es[q / 14]? = some es[q / 14] := List.getElem?_eq_getElem hj
 have := flat_get enC 14 en_len es (q / 14) (q % 14) _ hx (by omega)
 rw [show q / 14 * 14 + q % 14 = q by omega, hu] at this
 have := h _ _ hx (q % 14) u this.symm
 rwa [show o + q / 14 * 14 + q % 14 = o + q by omega] at this
theorem RdE.k (h : RdE w B A n es) : RdK w B A n 14 (es.flatMap enC) := ⟨by rw [flat_length enC 14 en_len, h.1], fun hn => by
 obtain ⟨b, o, e, hlt, hc⟩ := h.2 hn
 exact ⟨b, o, e, hlt, flat_at hc⟩⟩
theorem RdE.sliced (h : RdE w B A n es) {p q m : Nat} (hp : p ≤ q) (hq : q ≤ n) (hm : q ≤ m) :
  ∃ A', Go.sliced A p q m 14 = .slice A' (q - p) (m - p) ∧ RdE w B A' (q - p) ((es.drop p).take (q - p)) := by
 refine ⟨_, rfl, by rw [List.length_take, List.length_drop, h.1]; omega, fun h0 => ?_⟩
 obtain ⟨b, o, rfl, hlt, hc⟩ := h.2 (by omega)
 rw [if_neg (by omega)]
 refine ⟨b, o + p * 14, by simp [Addr.add], hlt, fun j x hx => ?_⟩
 rw [List.getElem?_take] at hx
 split at hx
 ·
  rw [List.getElem?_drop] at hx
  have := hc _ _ hx
  rwa [show o + (p + j) * 14 = o + p * 14 + j * 14 by rw [Nat.add_mul]; omega] at this
 · cases hx
end
def OwnE (w : World) (base : Nat) (v : Value) (es : List EnL) : Prop := w.ownsRow base 52 14 v es.length (es.flatMap enC)
section
variable {w w' : World} {base base' : Nat} {v : Value} {es : List EnL}
theorem OwnE.nil (w : World) (base : Nat) : OwnE w base (.slice none 0 0) [] := World.ownsRow_nil w base _ 14
theorem OwnE.slice (h : OwnE w base v es) : ∃ A c, v = .slice A es.length c ∧ es.length ≤ c ∧ c ≤ maxLen ∧ RdE w w.heap.size A es.length es := by
 rcases h.2 with ⟨hv, hn⟩ | ⟨g, cap, cur, rfl, hb, hg, hnc, hcm, hcs, htake⟩
 · exact ⟨none, 0, by rw [hv, hn], by omega, by unfold maxLen; omega, rfl, fun hp => absurd hp (by omega)⟩
 ·
  refine ⟨_, cap, rfl, hnc, hcm, rfl, fun hp => ⟨g, 0, rfl, lt_of_block hg, fun j x hx q u hu => ?_⟩⟩
  have hq : q < 14 := (List.getElem?_eq_some_iff.1 hu).1
  have hj : j < es.length := (List.getElem?_eq_some_iff.1 hx).1
  have hget := flat_get enC 14 en_len es j q x hx hq
  rw [← htake, List.getElem?_take, if_pos (by omega)] at hget
  rw [Nat.zero_add, cell_of_row w g _ _ _ (0, 0) hg, ← Array.getElem?_toList, hget]
  exact hu
theorem OwnE.cap {A : Option Addr} {n c : Nat} (h : OwnE w base (.slice A n c) es) : n = es.length ∧ n ≤ c ∧ c ≤ maxLen ∧ RdE w w.heap.size A n es := by
 obtain ⟨A', c', e, h1, h2, h3⟩ := h.slice
 simp only [Value.slice.injEq] at e
 obtain ⟨rfl, rfl, rfl⟩ := e
 exact ⟨rfl, h1, h2, h3⟩
theorem OwnE.below (h : OwnE w base v es) (hb : Below w.heap.size w w') : OwnE w' base v es := by
 refine ⟨h.1, ?_⟩
 rcases h.2 with hn | ⟨g, cap, cur, rfl, hbg, hg, r⟩
 · exact .inl hn
 · exact .inr ⟨g, cap, cur, rfl, hbg, (hb.block g (lt_of_block hg)).trans hg, r⟩
theorem OwnE.more (h : OwnE w base v es) (hB : base' ≤ base) : OwnE w base' v es := by
 refine ⟨h.1, ?_⟩
 rcases h.2 with hn | ⟨g, cap, cur, rfl, hb, r⟩
 · exact .inl hn
 · exact .inr ⟨g, cap, cur, rfl, by omega, r⟩
theorem OwnE.lit {g n : Nat} (hg : Blk 52 w g (es.flatMap enC)) (hb : base ≤ g) (hn : es.length = n) (hm : n ≤ 1000000) : OwnE w base (.slice (some ⟨g, 0, none⟩) n n) es := by
 subst hn
 have hl := flat_length enC 14 en_len es
 exact ⟨hl, .inr ⟨g, es.length, (es.flatMap enC).toArray, rfl, hb, hg, Nat.le_refl _, by unfold maxLen; omega, by simp [hl], List.take_of_length_le (by rw [hl]; exact Nat.le_refl _)⟩⟩
theorem OwnE.empty {g : Nat} (hg : Blk 52 w g []) (hb : base ≤ g) : OwnE w base (.slice (some ⟨g, 0, none⟩) 0 0) [] := OwnE.lit (es := []) hg hb rfl (by omega)
end
theorem infoE : (Tryz.prog.info? 52).map (fun i => (i.zero, i.size, i.bytes)) = some (some (.agg #[.int .i64 0, .int .i64 0, .string ⟨#[]⟩, .int .u16 0, .int .u16 0, .int .u16 0, .int .i64 0, .int .i64 0, .int .u16 0, .int .u16 0, .int .u16 0, .int .i64 0, .int .i64 0, .bool false]), 14, 88) := by kernel_rfl
theorem elemE : Tryz.prog.elem 28 = 52 := elem_of Tryz.underlying28
theorem sizeE (w : World) : (sizeOf 52).run Tryz.prog w = .ok 14 w := by
 obtain ⟨i, hi, hz0, hz1, hz2⟩ := info_parts infoE
 simp [sizeOf, typeInfo, hi, hz1]
section
variable {w : World} {ops : Array Oper} {rest : List Oper} {o : Oper} {a : Act} {Q : Exit → Act → World → Prop}
theorem wpList_slice_hE (hgd : o.guard = none) (s hi : Operand) (ho : o.op = .slice 28 s none (some hi) none)
  (A : Option Addr) (n c B : Nat) (es : List EnL) (hs : a.eval s = .slice A n c) (hR : RdE w B A n es) (kh : IntKind) (H : Int) (q : Nat) (hhi : a.eval hi = .int kh H) (hH : H = (q : Int)) (hq : q ≤ n) (hnc : n ≤ c)
  (h : ∀ A' c', RdE w B A' q (es.take q) → q ≤ c' → c' ≤ c → wpList Tryz.prog ops Q rest (a.put o.dst (.slice A' q c')) w) : wpList Tryz.prog ops Q (o :: rest) a w := by
 refine wpList_plain hgd fun K hK => ?_
 obtain ⟨A', e1, hR'⟩ := hR.sliced (Nat.zero_le q) hq (Nat.le_trans hq hnc)
 have hrun := run_slice_h (P := Tryz.prog) w 28 A n c (by rw [elemE]; exact Tryz.underlying28) kh H (by omega) (by omega)
 rw [elemE, sizeE, hH, Int.toNat_natCast] at hrun
 have hat := run_sliceAt_slice (P := Tryz.prog) w 28 (.slice A n c) none (some (.int kh H)) none (by rw [elemE]; exact Tryz.underlying28)
 rw [hH] at hat
 unfold Oper.wp execOp
 simp only [ho, Option.map_some, Option.map_none, hs, hhi, hH, Sem.run_bind, hat, hrun, Result.andThen_ok, Sem.run_pure, e1]
 rw [Nat.sub_zero, List.drop_zero] at hR'
 exact hK _ _ (h A' _ hR' (by omega) (by omega))
theorem wpList_slice_lE (hgd : o.guard = none) (s lo : Operand) (ho : o.op = .slice 28 s (some lo) none none)
  (A : Option Addr) (n c B : Nat) (es : List EnL) (hs : a.eval s = .slice A n c) (hR : RdE w B A n es) (kl : IntKind) (L : Int) (p : Nat) (hlo : a.eval lo = .int kl L) (hL : L = (p : Int)) (hp : p ≤ n) (hnc : n ≤ c)
  (h : ∀ A' c', RdE w B A' (n - p) (es.drop p) → n - p ≤ c' → c' ≤ c → wpList Tryz.prog ops Q rest (a.put o.dst (.slice A' (n - p) c')) w) : wpList Tryz.prog ops Q (o :: rest) a w := by
 refine wpList_plain hgd fun K hK => ?_
 obtain ⟨A', e1, hR'⟩ := hR.sliced hp (Nat.le_refl n) hnc
 have hrun := run_slice_l (P := Tryz.prog) w 28 A n c (by rw [elemE]; exact Tryz.underlying28) kl L (by omega) (by omega)
 rw [elemE, sizeE, hL, Int.toNat_natCast] at hrun
 have hat := run_sliceAt_slice (P := Tryz.prog) w 28 (.slice A n c) (some (.int kl L)) none none (by rw [elemE]; exact Tryz.underlying28)
 rw [hL] at hat
 unfold Oper.wp execOp
 simp only [ho, Option.map_some, Option.map_none, hs, hlo, hL, Sem.run_bind, hat, hrun, Result.andThen_ok, Sem.run_pure, e1]
 rw [List.take_of_length_le (by rw [List.length_drop, hR.1]; exact Nat.le_refl _)] at hR'
 exact hK _ _ (h A' _ hR' (by omega) (by omega))
theorem wpList_append_E (hgd : o.guard = none) (s x : Operand) (ho : o.op = .call { callee := .builtin .append, args := #[s, x], argTypes := #[28, 28] }) (base : Nat)
  (A : Option Addr) (n c : Nat) (es : List EnL) (hs : a.eval s = .slice A n c) (hown : OwnE w base (.slice A n c) es)
  (B : Nat) (X : Option Addr) (m xc : Nat) (news : List EnL) (hx : a.eval x = .slice X m xc) (hR : RdE w B X m news) (hb : n + m ≤ 3000000) (hbase : base ≤ w.heap.size)
  (h : ∀ A' c' w', OwnE w' base (.slice A' (n + m) c') (es ++ news) → Below base w w' → w.grownBy w' (Value.ownBlock (.slice A n c)) → wpList Tryz.prog ops Q rest (a.put o.dst (.slice A' (n + m) c')) w') : wpList Tryz.prog ops Q (o :: rest) a w := by
 have hn := hown.cap.1
 have hm := hR.1
 have ho' : w.ownsRow base 52 14 (.slice A n c) n (es.flatMap enC) := by rw [hn]; rw [hn] at hown; exact hown
 refine wpList_append_k hgd s x 28 ho base 52 _ 14 88 Tryz.underlying28 infoE rfl (by omega) A n c (es.flatMap enC) hs ho' B X m xc (news.flatMap enC) hx hR.k (flat_one _) (by omega) (by unfold maxLen; omega) hbase ?_
 intro A' c' w' h1 h2 h3
 refine h A' c' w' ?_ h2 h3
 unfold OwnE
 rw [List.length_append, ← hn, hm, List.flatMap_append]
 exact h1
end
theorem run_append_E (w : World) (base : Nat) (ty : TypeId) (A : Option Addr) (n c : Nat) (es : List EnL) (hown : OwnE w base (.slice A n c) es)
  (B : Nat) (X : Option Addr) (m xc : Nat) (news : List EnL) (hR : RdE w B X m news) (hb : n + m ≤ 3000000) (hbase : base ≤ w.heap.size) :
  ∃ A' c' w', (Builtin.append_ #[28, 28] ty #[.slice A n c, .slice X m xc]).run Tryz.prog w = .ok (.slice A' (n + m) c') w' ∧ OwnE w' base (.slice A' (n + m) c') (es ++ news) ∧ Below base w w' ∧ w.grownBy w' (Value.ownBlock (.slice A n c)) := by
 have hn := hown.cap.1
 have hm := hR.1
 have ho' : w.ownsRow base 52 14 (.slice A n c) n (es.flatMap enC) := by rw [hn]; rw [hn] at hown; exact hown
 obtain ⟨A', c', w', h0, h1, h2, h3⟩ := run_append_k (P := Tryz.prog) w base 28 ty 52 _ 14 88 Tryz.underlying28 infoE rfl (by omega) A n c (es.flatMap enC) ho' B X m xc (news.flatMap enC) hR.k (flat_one _) (by omega) (by unfold maxLen; omega) hbase
 refine ⟨A', c', w', h0, ?_, h2, h3⟩
 unfold OwnE
 rw [List.length_append, ← hn, hm, List.flatMap_append]
 exact h1
theorem OwnE.rd {w w' : World} {base B n c : Nat} {A : Option Addr} {es : List EnL} (h : OwnE w base (.slice A n c) es) (hb : Below w.heap.size w w') (hB : w.heap.size ≤ B) : RdE w' B A n es := h.cap.2.2.2.on hb hB
theorem ld14 {P : Program} {E : TypeId} {w : World} {g : Nat} {a0 a1 a2 a3 a4 a5 a6 a7 a8 a9 a10 a11 a12 a13 : Value} (h : Blk E w g [a0, a1, a2, a3, a4, a5, a6, a7, a8, a9, a10, a11, a12, a13]) :
  (loadCellsFrom ⟨g, 0, none⟩ 0 14 #[]).run P w = .ok #[a0, a1, a2, a3, a4, a5, a6, a7, a8, a9, a10, a11, a12, a13] w := by
 exact run_loadCells_list (P := P) w ⟨g, 0, none⟩ [a0, a1, a2, a3, a4, a5, a6, a7, a8, a9, a10, a11, a12, a13] (fun j v hv => by rw [Addr.add_lit, Nat.zero_add, h.cell]; exact hv)
theorem ld11 {P : Program} {E : TypeId} {w : World} {g : Nat} {a0 a1 a2 a3 a4 a5 a6 a7 a8 a9 a10 : Value} (h : Blk E w g [a0, a1, a2, a3, a4, a5, a6, a7, a8, a9, a10]) :
  (loadCellsFrom ⟨g, 0, none⟩ 0 11 #[]).run P w = .ok #[a0, a1, a2, a3, a4, a5, a6, a7, a8, a9, a10] w := by
 exact run_loadCells_list (P := P) w ⟨g, 0, none⟩ [a0, a1, a2, a3, a4, a5, a6, a7, a8, a9, a10] (fun j v hv => by rw [Addr.add_lit, Nat.zero_add, h.cell]; exact hv)
section
variable {P : Program} {fn : Func} {tmps : Array Value} {t T n g : Nat} {w : World} {cs : Array Value}
theorem res1 (hr : fn.results = #[.cell t T]) (ht : tmps[t]? = some (.pointer (some ⟨g, 0, none⟩))) (ha : (isAgg T).run P w = .ok true w) (hs : (sizeOf T).run P w = .ok n w) (hl : (loadCellsFrom ⟨g, 0, none⟩ 0 n #[]).run P w = .ok cs w) :
  (results fn tmps).run P w = .ok (.agg cs) w := by
 simp [results, asAddr, loadVar, loadCells, hr, ht, ha, hs, hl]
theorem res2 {t1 : Nat} {v1 : Value} (hr : fn.results = #[.cell t T, .tmp t1]) (ht : tmps[t]? = some (.pointer (some ⟨g, 0, none⟩))) (h1 : tmps[t1]? = some v1) (ha : (isAgg T).run P w = .ok true w) (hs : (sizeOf T).run P w = .ok n w) (hl : (loadCellsFrom ⟨g, 0, none⟩ 0 n #[]).run P w = .ok cs w) :
  (results fn tmps).run P w = .ok (.tuple #[.agg cs, v1]) w := by
 simp [results, asAddr, loadVar, loadCells, hr, ht, h1, ha, hs, hl]
theorem resT2 {t1 t2 : Nat} {v1 v2 : Value} (hr : fn.results = #[.tmp t1, .tmp t2]) (h1 : tmps[t1]? = some v1) (h2 : tmps[t2]? = some v2) : (results fn tmps).run P w = .ok (.tuple #[v1, v2]) w := by
 simp [results, hr, h1, h2]
end
theorem infoL : (Tryz.prog.info? 30).map (fun i => (i.zero, i.size, i.bytes)) = some (some (.agg #[.int .i64 0, .int .i64 0, .int .u16 0, .int .u16 0, .int .u16 0, .int .i64 0, .int .i64 0, .int .u16 0, .int .u16 0, .int .u16 0, .int .i64 0, .int .i64 0, .bool false, .slice none 0 0]), 14, 96) := by kernel_rfl
theorem sizeL (w : World) : (sizeOf 30).run Tryz.prog w = .ok 14 w := by
 obtain ⟨i, hi, hz0, hz1, hz2⟩ := info_parts infoL
 simp [sizeOf, typeInfo, hi, hz1]
theorem infoJt : (Tryz.prog.info? 27).map (fun i => (i.zero, i.size, i.bytes)) = some (some (.agg #[.int .u16 0, .int .u16 0, .int .u16 0, .int .i64 0, .int .i64 0, .int .u16 0, .int .u16 0, .int .u16 0, .int .i64 0, .int .i64 0, .bool false]), 11, 56) := by kernel_rfl
theorem sizeJ (w : World) : (sizeOf 27).run Tryz.prog w = .ok 11 w := by
 obtain ⟨i, hi, hz0, hz1, hz2⟩ := info_parts infoJt
 simp [sizeOf, typeInfo, hi, hz1]
theorem aggL (w : World) : (isAgg 30).run Tryz.prog w = .ok true w := by
 simp [isAgg, run_underlying Tryz.underlying30]
theorem aggE (w : World) : (isAgg 52).run Tryz.prog w = .ok true w := by
 simp [isAgg, run_underlying Tryz.underlying52]
theorem aggJ (w : World) : (isAgg 27).run Tryz.prog w = .ok true w := by
 simp [isAgg, run_underlying Tryz.underlying27]
theorem RdE.take {w : World} {B n : Nat} {A : Option Addr} {es : List EnL} (h : RdE w B A n es) {m : Nat} (hm : m ≤ n) : RdE w B A m (es.take m) := by
 refine ⟨by rw [List.length_take, h.1]; omega, fun h0 => ?_⟩
 obtain ⟨b, o, rfl, hlt, hc⟩ := h.2 (by omega)
 refine ⟨b, o, rfl, hlt, fun j x hx => ?_⟩
 rw [List.getElem?_take] at hx
 split at hx
 · exact hc _ _ hx
 · cases hx
theorem OwnE.keep {w w' : World} {base : Nat} {v : Value} {es : List EnL} (h : OwnE w base v es) (hk : ∀ g, base ≤ g → w'.heap[g]? = w.heap[g]?) : OwnE w' base v es := by
 refine ⟨h.1, ?_⟩
 rcases h.2 with hn | ⟨g, cap, cur, rfl, hbg, hg, r⟩
 · exact .inl hn
 · exact .inr ⟨g, cap, cur, rfl, hbg, (hk g hbg).trans hg, r⟩
theorem OwnE.far {w : World} {base : Nat} {v : Value} {es : List EnL} (h : OwnE w base v es) {p : Addr} (hp : p.block < base) (u : Value) : OwnE (w.setCell p u) base v es := h.keep fun g hg => Below.heap_setCell w p u g (by omega)
theorem RdE.far {w : World} {B n : Nat} {A : Option Addr} {es : List EnL} {p : Addr} (h : RdE w B A n es) (hp : B ≤ p.block) (u : Value) : RdE (w.setCell p u) B A n es := h.below ((Below.refl B w).setCell hp u)
theorem own14 {w : World} {g base : Nat} {v : Value} {es : List EnL} (b0 b1 b2 b3 b4 b5 b6 b7 b8 b9 b10 b11 b12 b13 : Value) (h : OwnE w base v es) (hg : g < base) : OwnE ((((((((((((((w.setCell ⟨g, 0, none⟩ b0).setCell ⟨g, 1, none⟩ b1).setCell ⟨g, 2, none⟩ b2).setCell ⟨g, 3, none⟩ b3).setCell ⟨g, 4, none⟩ b4).setCell ⟨g, 5, none⟩ b5).setCell ⟨g, 6, none⟩ b6).setCell ⟨g, 7, none⟩ b7).setCell ⟨g, 8, none⟩ b8).setCell ⟨g, 9, none⟩ b9).setCell ⟨g, 10, none⟩ b10).setCell ⟨g, 11, none⟩ b11).setCell ⟨g, 12, none⟩ b12).setCell ⟨g, 13, none⟩ b13) base v es := ((((((((((((((h.far (p := ⟨g, 0, none⟩) hg b0).far (p := ⟨g, 1, none⟩) hg b1).far (p := ⟨g, 2, none⟩) hg b2).far (p := ⟨g, 3, none⟩) hg b3).far (p := ⟨g, 4, none⟩) hg b4).far (p := ⟨g, 5, none⟩) hg b5).far (p := ⟨g, 6, none⟩) hg b6).far (p := ⟨g, 7, none⟩) hg b7).far (p := ⟨g, 8, none⟩) hg b8).far (p := ⟨g, 9, none⟩) hg b9).far (p := ⟨g, 10, none⟩) hg b10).far (p := ⟨g, 11, none⟩) hg b11).far (p := ⟨g, 12, none⟩) hg b12).far (p := ⟨g, 13, none⟩) hg b13)
end Go.Proofs.YtegnfkbmlalkeaaGreat.kit
