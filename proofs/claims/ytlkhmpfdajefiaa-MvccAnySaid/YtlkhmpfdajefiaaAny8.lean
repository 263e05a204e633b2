/- What MvccAny comes to. Conditions: what the cells read as. -/
import Derived.Test.YtlkhmpfdajefiaaTold8
namespace Go.Proofs.Ytlkhmpfdajefiaa.law8
open Go Go.RowKit Go.Proofs.Ytlkhmpfdajefiaa.kit Go.Proofs.Ytlkhmpfdajefiaa.nums Go.Proofs.Ytlkhmpfdajefiaa.st Go.Proofs.Ytlkhmpfdajefiaa.mv Go.Proofs.Ytlkhmpfdajefiaa.ref8
set_option linter.unusedVariables false

set_option maxRecDepth 100000 in
set_option maxHeartbeats 4000000 in
theorem any_any (A : Option Addr) (n c : Nat) (cs : List CellL) (kk : ByteArray) (ta : StL) (lo hi : ByteArray) (by_ : TrL) (most : Int) (x : OpM) (w : World) (B : Nat) (hR : RdC w B A n cs) (hB : B ≤ w.heap.size) (hnc : n ≤ c) (hn : n ≤ 9223372036854775807) :
    Calls Try.prog 4 #[.slice A n c, .string kk, .agg #[.int .i64 ta.wall, .int .i64 ta.tie], .agg #[.string lo, .string hi], .agg #[.int .i64 by_.node, .int .i64 by_.life, .int .i64 by_.seq, .int .i64 by_.att], .int .i64 most, .agg #[.int .i64 x.kind, .string x.key, .bool x.drop, .string x.data, .int .i64 x.lk.by_.node, .int .i64 x.lk.by_.life, .int .i64 x.lk.by_.seq, .int .i64 x.lk.by_.att, .int .i64 x.lk.home, .int .i64 x.lk.at_.wall, .int .i64 x.lk.at_.tie, .bool x.lk.drop, .string x.lk.data, .bool x.yes]] w fun e w' => e = .returned (.bool true) ∧ Below w.heap.size w w' := by
  have HB := Lib.hid (fun (wq : World) (h : Below w.heap.size w wq) => (show RdC wq B A n cs ∧ B ≤ wq.heap.size from ⟨hR.below (h.mono hB), by have := h.size; omega⟩))
  have BG := Lib.hid (fun w => begun_any w)
  have LC := Lib.hid (fun (wq : World) (h : Below w.heap.size w wq) => lightC_any A n c cs wq B (HB.out wq h).1 hn)
  have LO := Lib.hid (fun (wq : World) => (show Calls Try.prog 12 #[.slice (some ⟨wq.heap.size, 0, none⟩) 1 1, .int .i64 1] (wq.alloc (.cells #[.int .i64 x.kind, .string x.key, .bool x.drop, .string x.data, .int .i64 x.lk.by_.node, .int .i64 x.lk.by_.life, .int .i64 x.lk.by_.seq, .int .i64 x.lk.by_.att, .int .i64 x.lk.home, .int .i64 x.lk.at_.wall, .int .i64 x.lk.at_.tie, .bool x.lk.drop, .string x.lk.data, .bool x.yes] 40)) (RetLtM (wq.alloc (.cells #[.int .i64 x.kind, .string x.key, .bool x.drop, .string x.data, .int .i64 x.lk.by_.node, .int .i64 x.lk.by_.life, .int .i64 x.lk.by_.seq, .int .i64 x.lk.by_.att, .int .i64 x.lk.home, .int .i64 x.lk.at_.wall, .int .i64 x.lk.at_.tie, .bool x.lk.drop, .string x.lk.data, .bool x.yes] 40)) 1 [x]) from light_any (some ⟨wq.heap.size, 0, none⟩) 1 1 1 [x] (wq.alloc (.cells #[.int .i64 x.kind, .string x.key, .bool x.drop, .string x.data, .int .i64 x.lk.by_.node, .int .i64 x.lk.by_.life, .int .i64 x.lk.by_.seq, .int .i64 x.lk.by_.att, .int .i64 x.lk.home, .int .i64 x.lk.at_.wall, .int .i64 x.lk.at_.tie, .bool x.lk.drop, .string x.lk.data, .bool x.yes] 40)) (wq.heap.size + 1) ⟨rfl, fun _ => ⟨_, 0, rfl, Nat.lt_succ_self _, fun j y hy => by
    rcases j with _ | j
    · obtain rfl := Option.some.inj hy
      exact at_new wq 40 (opC x)
    · simp at hy⟩⟩ (by omega)))
  have MR := Lib.hid (fun (hf : Few cs) (wq : World) (h : Below w.heap.size w wq) => ref8.may_any A n c cs wq B (HB.out wq h).1 (HB.out wq h).2 (by have := hf.1; have := (HB.out wq h).1.1; omega) (fun x hx => by have := hf.2 x hx; omega))
  have MM := Lib.hid (fun (hf : Few cs) (wq : World) (h : Below w.heap.size w wq) => mvi.may_any A n c cs wq B (HB.out wq h).1 (HB.out wq h).2 hf)
  have DO := Lib.hid (fun (hf : Few cs) (hok : okC cs) (wq : World) (h : Below w.heap.size w wq) => (show Calls Try.prog 14 #[.slice A n c, .agg #[.int .i64 x.kind, .string x.key, .bool x.drop, .string x.data, .int .i64 x.lk.by_.node, .int .i64 x.lk.by_.life, .int .i64 x.lk.by_.seq, .int .i64 x.lk.by_.att, .int .i64 x.lk.home, .int .i64 x.lk.at_.wall, .int .i64 x.lk.at_.tie, .bool x.lk.drop, .string x.lk.data, .bool x.yes]] wq (RetDo wq (doF x cs)) from do_any A n c cs x wq B (HB.out wq h).1 (HB.out wq h).2 hf hok))
  have TO := Lib.hid (fun (hf : Few cs) (hok : okC cs) (wq : World) (h : Below w.heap.size w wq) => told_any A n c cs kk ta lo hi by_ most wq B (HB.out wq h).1 (HB.out wq h).2 hf hok hnc)
  have hB0 : Hid (Below w.heap.size w ((((w.alloc (.cells #[.int .i64 ta.wall, .int .i64 ta.tie] 24)).alloc (.cells #[.string lo, .string hi] 26)).alloc (.cells #[.int .i64 by_.node, .int .i64 by_.life, .int .i64 by_.seq, .int .i64 by_.att] 28)).alloc (.cells #[.int .i64 x.kind, .string x.key, .bool x.drop, .string x.data, .int .i64 x.lk.by_.node, .int .i64 x.lk.by_.life, .int .i64 x.lk.by_.seq, .int .i64 x.lk.by_.att, .int .i64 x.lk.home, .int .i64 x.lk.at_.wall, .int .i64 x.lk.at_.tie, .bool x.lk.drop, .string x.lk.data, .bool x.yes] 40))) := ((((Below.refl _ _).alloc (Nat.le_refl _) _).alloc (by simp) _).alloc (by simp; omega) _).alloc (by simp; omega) _
  have k0 : Blk 24 ((((w.alloc (.cells #[.int .i64 ta.wall, .int .i64 ta.tie] 24)).alloc (.cells #[.string lo, .string hi] 26)).alloc (.cells #[.int .i64 by_.node, .int .i64 by_.life, .int .i64 by_.seq, .int .i64 by_.att] 28)).alloc (.cells #[.int .i64 x.kind, .string x.key, .bool x.drop, .string x.data, .int .i64 x.lk.by_.node, .int .i64 x.lk.by_.life, .int .i64 x.lk.by_.seq, .int .i64 x.lk.by_.att, .int .i64 x.lk.home, .int .i64 x.lk.at_.wall, .int .i64 x.lk.at_.tie, .bool x.lk.drop, .string x.lk.data, .bool x.yes] 40)) w.heap.size [.int .i64 ta.wall, .int .i64 ta.tie] := Blk.alloc (Blk.alloc (Blk.alloc (heap_alloc_new w _) _) _) _
  have k1 : Blk 26 ((((w.alloc (.cells #[.int .i64 ta.wall, .int .i64 ta.tie] 24)).alloc (.cells #[.string lo, .string hi] 26)).alloc (.cells #[.int .i64 by_.node, .int .i64 by_.life, .int .i64 by_.seq, .int .i64 by_.att] 28)).alloc (.cells #[.int .i64 x.kind, .string x.key, .bool x.drop, .string x.data, .int .i64 x.lk.by_.node, .int .i64 x.lk.by_.life, .int .i64 x.lk.by_.seq, .int .i64 x.lk.by_.att, .int .i64 x.lk.home, .int .i64 x.lk.at_.wall, .int .i64 x.lk.at_.tie, .bool x.lk.drop, .string x.lk.data, .bool x.yes] 40)) (w.heap.size + 1) [.string lo, .string hi] := by
    have := Blk.alloc (Blk.alloc (E := 26) (cs := [.string lo, .string hi]) (heap_alloc_new (w.alloc (.cells #[.int .i64 ta.wall, .int .i64 ta.tie] 24)) _) (.cells #[.int .i64 by_.node, .int .i64 by_.life, .int .i64 by_.seq, .int .i64 by_.att] 28)) (.cells #[.int .i64 x.kind, .string x.key, .bool x.drop, .string x.data, .int .i64 x.lk.by_.node, .int .i64 x.lk.by_.life, .int .i64 x.lk.by_.seq, .int .i64 x.lk.by_.att, .int .i64 x.lk.home, .int .i64 x.lk.at_.wall, .int .i64 x.lk.at_.tie, .bool x.lk.drop, .string x.lk.data, .bool x.yes] 40)
    simpa using this
  have k2 : Blk 28 ((((w.alloc (.cells #[.int .i64 ta.wall, .int .i64 ta.tie] 24)).alloc (.cells #[.string lo, .string hi] 26)).alloc (.cells #[.int .i64 by_.node, .int .i64 by_.life, .int .i64 by_.seq, .int .i64 by_.att] 28)).alloc (.cells #[.int .i64 x.kind, .string x.key, .bool x.drop, .string x.data, .int .i64 x.lk.by_.node, .int .i64 x.lk.by_.life, .int .i64 x.lk.by_.seq, .int .i64 x.lk.by_.att, .int .i64 x.lk.home, .int .i64 x.lk.at_.wall, .int .i64 x.lk.at_.tie, .bool x.lk.drop, .string x.lk.data, .bool x.yes] 40)) (w.heap.size + 2) [.int .i64 by_.node, .int .i64 by_.life, .int .i64 by_.seq, .int .i64 by_.att] := by
    have := Blk.alloc (E := 28) (cs := [.int .i64 by_.node, .int .i64 by_.life, .int .i64 by_.seq, .int .i64 by_.att]) (heap_alloc_new ((w.alloc (.cells #[.int .i64 ta.wall, .int .i64 ta.tie] 24)).alloc (.cells #[.string lo, .string hi] 26)) _) (.cells #[.int .i64 x.kind, .string x.key, .bool x.drop, .string x.data, .int .i64 x.lk.by_.node, .int .i64 x.lk.by_.life, .int .i64 x.lk.by_.seq, .int .i64 x.lk.by_.att, .int .i64 x.lk.home, .int .i64 x.lk.at_.wall, .int .i64 x.lk.at_.tie, .bool x.lk.drop, .string x.lk.data, .bool x.yes] 40)
    simpa using this
  have k3 : Blk 40 ((((w.alloc (.cells #[.int .i64 ta.wall, .int .i64 ta.tie] 24)).alloc (.cells #[.string lo, .string hi] 26)).alloc (.cells #[.int .i64 by_.node, .int .i64 by_.life, .int .i64 by_.seq, .int .i64 by_.att] 28)).alloc (.cells #[.int .i64 x.kind, .string x.key, .bool x.drop, .string x.data, .int .i64 x.lk.by_.node, .int .i64 x.lk.by_.life, .int .i64 x.lk.by_.seq, .int .i64 x.lk.by_.att, .int .i64 x.lk.home, .int .i64 x.lk.at_.wall, .int .i64 x.lk.at_.tie, .bool x.lk.drop, .string x.lk.data, .bool x.yes] 40)) (w.heap.size + 3) [.int .i64 x.kind, .string x.key, .bool x.drop, .string x.data, .int .i64 x.lk.by_.node, .int .i64 x.lk.by_.life, .int .i64 x.lk.by_.seq, .int .i64 x.lk.by_.att, .int .i64 x.lk.home, .int .i64 x.lk.at_.wall, .int .i64 x.lk.at_.tie, .bool x.lk.drop, .string x.lk.data, .bool x.yes] := by
    have := heap_alloc_new (((w.alloc (.cells #[.int .i64 ta.wall, .int .i64 ta.tie] 24)).alloc (.cells #[.string lo, .string hi] 26)).alloc (.cells #[.int .i64 by_.node, .int .i64 by_.life, .int .i64 by_.seq, .int .i64 by_.att] 28)) (.cells #[.int .i64 x.kind, .string x.key, .bool x.drop, .string x.data, .int .i64 x.lk.by_.node, .int .i64 x.lk.by_.life, .int .i64 x.lk.by_.seq, .int .i64 x.lk.by_.att, .int .i64 x.lk.home, .int .i64 x.lk.at_.wall, .int .i64 x.lk.at_.tie, .bool x.lk.drop, .string x.lk.data, .bool x.yes] 40)
    simpa [Blk] using this
  have HS : Hid (∀ wq, Below ((((w.alloc (.cells #[.int .i64 ta.wall, .int .i64 ta.tie] 24)).alloc (.cells #[.string lo, .string hi] 26)).alloc (.cells #[.int .i64 by_.node, .int .i64 by_.life, .int .i64 by_.seq, .int .i64 by_.att] 28)).alloc (.cells #[.int .i64 x.kind, .string x.key, .bool x.drop, .string x.data, .int .i64 x.lk.by_.node, .int .i64 x.lk.by_.life, .int .i64 x.lk.by_.seq, .int .i64 x.lk.by_.att, .int .i64 x.lk.home, .int .i64 x.lk.at_.wall, .int .i64 x.lk.at_.tie, .bool x.lk.drop, .string x.lk.data, .bool x.yes] 40)).heap.size ((((w.alloc (.cells #[.int .i64 ta.wall, .int .i64 ta.tie] 24)).alloc (.cells #[.string lo, .string hi] 26)).alloc (.cells #[.int .i64 by_.node, .int .i64 by_.life, .int .i64 by_.seq, .int .i64 by_.att] 28)).alloc (.cells #[.int .i64 x.kind, .string x.key, .bool x.drop, .string x.data, .int .i64 x.lk.by_.node, .int .i64 x.lk.by_.life, .int .i64 x.lk.by_.seq, .int .i64 x.lk.by_.att, .int .i64 x.lk.home, .int .i64 x.lk.at_.wall, .int .i64 x.lk.at_.tie, .bool x.lk.drop, .string x.lk.data, .bool x.yes] 40)) wq → wq.cell? ⟨w.heap.size, 0, none⟩ = some (.int .i64 ta.wall) ∧ wq.cell? ⟨w.heap.size, 1, none⟩ = some (.int .i64 ta.tie) ∧ wq.cell? ⟨w.heap.size + 1, 0, none⟩ = some (.string lo) ∧ wq.cell? ⟨w.heap.size + 1, 1, none⟩ = some (.string hi) ∧ wq.cell? ⟨w.heap.size + 2, 0, none⟩ = some (.int .i64 by_.node) ∧ wq.cell? ⟨w.heap.size + 2, 1, none⟩ = some (.int .i64 by_.life) ∧ wq.cell? ⟨w.heap.size + 2, 2, none⟩ = some (.int .i64 by_.seq) ∧ wq.cell? ⟨w.heap.size + 2, 3, none⟩ = some (.int .i64 by_.att) ∧ wq.cell? ⟨w.heap.size + 3, 0, none⟩ = some (.int .i64 x.kind) ∧ wq.cell? ⟨w.heap.size + 3, 1, none⟩ = some (.string x.key) ∧ wq.cell? ⟨w.heap.size + 3, 2, none⟩ = some (.bool x.drop) ∧ wq.cell? ⟨w.heap.size + 3, 3, none⟩ = some (.string x.data) ∧ wq.cell? ⟨w.heap.size + 3, 4, none⟩ = some (.int .i64 x.lk.by_.node) ∧ wq.cell? ⟨w.heap.size + 3, 5, none⟩ = some (.int .i64 x.lk.by_.life) ∧ wq.cell? ⟨w.heap.size + 3, 6, none⟩ = some (.int .i64 x.lk.by_.seq) ∧ wq.cell? ⟨w.heap.size + 3, 7, none⟩ = some (.int .i64 x.lk.by_.att) ∧ wq.cell? ⟨w.heap.size + 3, 8, none⟩ = some (.int .i64 x.lk.home) ∧ wq.cell? ⟨w.heap.size + 3, 9, none⟩ = some (.int .i64 x.lk.at_.wall) ∧ wq.cell? ⟨w.heap.size + 3, 10, none⟩ = some (.int .i64 x.lk.at_.tie) ∧ wq.cell? ⟨w.heap.size + 3, 11, none⟩ = some (.bool x.lk.drop) ∧ wq.cell? ⟨w.heap.size + 3, 12, none⟩ = some (.string x.lk.data) ∧ wq.cell? ⟨w.heap.size + 3, 13, none⟩ = some (.bool x.yes)) := fun wq hq => by
    have h0 := k0.below hq k0.lt
    have h1 := k1.below hq k1.lt
    have h2 := k2.below hq k2.lt
    have h3 := k3.below hq k3.lt
    exact ⟨h0.cell 0, h0.cell 1, h1.cell 0, h1.cell 1, h2.cell 0, h2.cell 1, h2.cell 2, h2.cell 3, h3.cell 0, h3.cell 1, h3.cell 2, h3.cell 3, h3.cell 4, h3.cell 5, h3.cell 6, h3.cell 7, h3.cell 8, h3.cell 9, h3.cell 10, h3.cell 11, h3.cell 12, h3.cell 13⟩
  clear k0 k1 k2 k3 hR HB
  go_enter Try.func4, Try.ntmps4
  go_upto_region 1 with (fail)
  (try rw [show w.heap.size + 1 + 1 = w.heap.size + 2 by omega])
  (try rw [show w.heap.size + 2 + 1 = w.heap.size + 3 by omega])
  (try rw [show w.heap.size + 1 + 1 + 1 = w.heap.size + 3 by omega])
  generalize ((((w.alloc (.cells #[.int .i64 ta.wall, .int .i64 ta.tie] 24)).alloc (.cells #[.string lo, .string hi] 26)).alloc (.cells #[.int .i64 by_.node, .int .i64 by_.life, .int .i64 by_.seq, .int .i64 by_.att] 28)).alloc (.cells #[.int .i64 x.kind, .string x.key, .bool x.drop, .string x.data, .int .i64 x.lk.by_.node, .int .i64 x.lk.by_.life, .int .i64 x.lk.by_.seq, .int .i64 x.lk.by_.att, .int .i64 x.lk.home, .int .i64 x.lk.at_.wall, .int .i64 x.lk.at_.tie, .bool x.lk.drop, .string x.lk.data, .bool x.yes] 40)) = w1 at *
  go_wp2_with fail
  refine (BG.out _).mono ?_
  rintro e y1 ⟨rfl, q1⟩
  have b1 := hB0.out.trans (q1.mono hB0.out.size)
  obtain ⟨s0, s1, s2, s3, s4, s5, s6, s7, s8, s9, s10, s11, s12, s13, s14, s15, s16, s17, s18, s19, s20, s21⟩ := HS.out _ q1
  go_wp2_with fail
  refine (LC.out _ b1).mono ?_
  rintro e w3 ⟨r, rfl, hr, rfl⟩
  rcases r with _ | _
  · go_wp2_with fail
    go_ret
    exact ⟨rfl, b1⟩
  have hl := hr rfl
  have h60 : FewN 60 cs := ⟨hl.1, fun x hx => by have := (hl.2 x hx).1; omega⟩
  have hf : Few cs := few_of h60 (by omega)
  clear hr hl LC BG
  by_cases g1 : 100 < kk.size
  · go_wp2_with fail
    go_ret
    exact ⟨rfl, b1⟩
  have MR := Lib.hid (MR.out hf)
  have MM := Lib.hid (MM.out hf)
  have DO := Lib.hid (DO.out hf)
  have TO := Lib.hid (TO.out hf)
  have HFR : Hid (okC cs → Few (doF x cs)) := fun _ => few_of (few_do x h60) (by omega)
  clear hf h60
  have q2 := q1.alloc q1.size (.cells #[.int .i64 x.kind, .string x.key, .bool x.drop, .string x.data, .int .i64 x.lk.by_.node, .int .i64 x.lk.by_.life, .int .i64 x.lk.by_.seq, .int .i64 x.lk.by_.att, .int .i64 x.lk.home, .int .i64 x.lk.at_.wall, .int .i64 x.lk.at_.tie, .bool x.lk.drop, .string x.lk.data, .bool x.yes] 40)
  have b2 := b1.alloc b1.size (.cells #[.int .i64 x.kind, .string x.key, .bool x.drop, .string x.data, .int .i64 x.lk.by_.node, .int .i64 x.lk.by_.life, .int .i64 x.lk.by_.seq, .int .i64 x.lk.by_.att, .int .i64 x.lk.home, .int .i64 x.lk.at_.wall, .int .i64 x.lk.at_.tie, .bool x.lk.drop, .string x.lk.data, .bool x.yes] 40)
  go_wp2_with fail
  refine (LO.out _).mono ?_
  rintro e w4 ⟨r, rfl, _, rfl⟩
  clear LO s0 s1 s2 s3 s4 s5 s6 s7 s8 s9 s10 s11 s12 s13 s14 s15 s16 s17 s18 s19 s20 s21
  generalize (y1.alloc (.cells #[.int .i64 x.kind, .string x.key, .bool x.drop, .string x.data, .int .i64 x.lk.by_.node, .int .i64 x.lk.by_.life, .int .i64 x.lk.by_.seq, .int .i64 x.lk.by_.att, .int .i64 x.lk.home, .int .i64 x.lk.at_.wall, .int .i64 x.lk.at_.tie, .bool x.lk.drop, .string x.lk.data, .bool x.yes] 40)) = y2 at *
  clear q1 b1
  rcases r with _ | _
  · go_wp2_with fail
    go_ret
    exact ⟨rfl, b2⟩
  go_wp2_with fail
  refine (MR.out _ b2).mono ?_
  rintro e y3 ⟨b, rfl, hb, hY3⟩
  have q3 := q2.trans (hY3.mono q2.size)
  have b3 := b2.trans (hY3.mono b2.size)
  rcases b with _ | _
  · have hno : ¬ okC cs := fun h => by have := hb.2 h; cases this
    go_wp2_with fail
    refine (MM.out _ b3).mono ?_
    rintro e y4 ⟨b, rfl, hb', hY4⟩
    have b4 := b3.trans (hY4.mono b3.size)
    rcases b with _ | _
    · go_wp2_with fail
      go_ret
      exact ⟨rfl, b4⟩
    · exact absurd (hb'.1 rfl) hno
  have hok : okC cs := hb.1 rfl
  have DO := Lib.hid (DO.out hok)
  have TO := Lib.hid (TO.out hok)
  have HF := Lib.hid (HFR.out hok)
  clear hok hb MR MM HFR
  obtain ⟨s0, s1, s2, s3, s4, s5, s6, s7, s8, s9, s10, s11, s12, s13, s14, s15, s16, s17, s18, s19, s20, s21⟩ := HS.out _ q3
  go_wp2_with fail
  refine (DO.out _ b3).mono ?_
  rintro e y4 ⟨A1, c1, A2, c2, rfl, hO1, hO2, hY4⟩
  have q4 := q3.trans (hY4.mono q3.size)
  have b4 := b3.trans (hY4.mono b3.size)
  clear s0 s1 s2 s3 s4 s5 s6 s7 s8 s9 s10 s11 s12 s13 s14 s15 s16 s17 s18 s19 s20 s21 DO
  generalize doF x cs = R at *
  obtain ⟨s0, s1, s2, s3, s4, s5, s6, s7, s8, s9, s10, s11, s12, s13, s14, s15, s16, s17, s18, s19, s20, s21⟩ := HS.out _ q4
  go_wp2_with fail
  refine (TO.out _ b4).mono ?_
  rintro e y5 ⟨rfl, hY5⟩
  have b5 := b4.trans (hY5.mono b4.size)
  clear s0 s1 s2 s3 s4 s5 s6 s7 s8 s9 s10 s11 s12 s13 s14 s15 s16 s17 s18 s19 s20 s21 TO
  go_wp2_with fail
  have hsm := own_same hO1 hY5 HF.out hO2 hY5 HF.out
  rw [decide_eq_true rfl] at hsm
  refine hsm.mono ?_
  rintro e y6 ⟨rfl, hY6⟩
  clear hsm
  go_wp2_with fail
  go_ret
  exact ⟨rfl, b5.trans (hY6.mono b5.size)⟩
end Go.Proofs.Ytlkhmpfdajefiaa.law8
