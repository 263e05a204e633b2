/- What the document's log (antipoderef5) comes to: look. Conditions: the string's bytes are known, at most MaxFile. -/
import Derived.Test.YtafdgibkhefplaaRef5
import Derived.Handy
import Derived.Deep.Cut
namespace Go.Proofs.Ytafdgibkhefplaa.ref5
open Go.RowKit Go.Proofs.Ytafdgibkhefplaa.kit Go.Proofs.Ytafdgibkhefplaa.nums Go.Proofs.Ytafdgibkhefplaa.ds Go.Proofs.Ytafdgibkhefplaa.rec_ Go.Proofs.Ytafdgibkhefplaa.ws Go.Proofs.Ytafdgibkhefplaa.ref4 Go.Proofs.Ytafdgibkhefplaa.bytes
set_option linter.unusedVariables false

def fileZ : List Value := [.bool false, .bool false, .int .u64 0, .slice none 0 0]
/-- What look ends in. -/
def RetLook (W : World) (K : Look) (e : Ending) (w' : World) : Prop :=
  ∃ (wh sp : Bool) (gg : Int) (v : Value) (rs : List (List Int)), e = .returned (.agg #[.bool wh, .bool sp, .int .u64 gg, v]) ∧ OwnV 9 w' W.heap.size v (rs.map strV) ∧ Below W.heap.size W w' ∧ wh = K.whole ∧ (wh = true → sp = K.spoilt ∧ gg = K.gen ∧ rs = K.recs)
theorem set4 {E : TypeId} {W : World} {G : Nat} {x0 x1 x2 x3 : Value} (h : Blk E W G [x0, x1, x2, x3]) (a b c d : Value) : Blk E ((((W.setCell ⟨G, 0, none⟩ a).setCell ⟨G, 1, none⟩ b).setCell ⟨G, 2, none⟩ c).setCell ⟨G, 3, none⟩ d) G [a, b, c, d] := (((h.set_ 0 a).set_ 1 b).set_ 2 c).set_ 3 d
theorem grown4 (W : World) (G : Nat) (a b c d : Value) : W.grownBy ((((W.setCell ⟨G, 0, none⟩ a).setCell ⟨G, 1, none⟩ b).setCell ⟨G, 2, none⟩ c).setCell ⟨G, 3, none⟩ d) (some G) :=
  grown_trans (grown_trans (grown_trans (grown_set _ _ _ _) (grown_set _ _ _ _)) (grown_set _ _ _ _)) (grown_set _ _ _ _)
theorem below_grown {w W W' : World} {B g : Nat} (hB : Below B w W) (hG : W.grownBy W' (some g)) (hg : B ≤ g) (hs : B ≤ W.heap.size) : Below B w W' :=
  ⟨hG.os.trans hB.os, hG.tape.trans hB.tape, hG.output.trans hB.output, Nat.le_trans hB.size hG.size, fun k hk => (hG.block k (by omega) (by simp; omega)).trans (hB.block k hk)⟩
/-- What is still to be found behind the records rs. -/
def TT (all w : Bool) (L : List (List Int)) (rs : List (List Int)) : Bool × Bool × List (List Int) := ((lookT all w L).1, (lookT all w L).2.1, rs ++ (lookT all w L).2.2)
theorem TT_E {all w : Bool} {r : List Int} {L rs : List (List Int)} (h : r = [69] ∧ w = false) : TT all w (r :: L) rs = TT all true L rs := by unfold TT; rw [lookT_E h]
theorem TT_R {all w : Bool} {t : List Int} {L rs : List (List Int)} : TT all w ((82 :: t) :: L) rs = TT all w L (rs ++ [t]) := by
  unfold TT
  rw [lookT_R (by simp) (by simp)]
  simp
theorem TT_X {all w : Bool} {r : List Int} {L rs : List (List Int)} (h : ¬ (r = [69] ∧ w = false)) (h2 : ¬ r.head? = some 82) : TT all w (r :: L) rs = (w, true, rs) := by
  unfold TT
  rw [lookT_X h h2]
  simp
theorem str_list {r : List Int} (h : Byt r) : (strOfNums r).toList = r.map (fun n => UInt8.ofNat n.toNat) := by
  rw [ByteArray.toList_eq]; simp [strOfNums]
theorem own_ne {w : World} {p base k : Nat} {v : Value} {cs ys : List Value} (h : Blk 108 w p cs) (hO : OwnV 9 w base v ys) (hk : v.ownBlock = some k) (e : p = k) : False := by
  subst e
  obtain ⟨_, cs', h2⟩ := ownV_block hO hk
  unfold Blk at h
  rw [h] at h2
  simp only [Option.some.injEq, Obj.cells.injEq] at h2
  exact absurd h2.2.1 (by decide)
theorem TT_nil {all w : Bool} {rs : List (List Int)} : TT all w [] rs = (w, !all, rs) := by unfold TT lookT; simp
/-- Its end. -/
theorem look_end {w W : World} {g2 : Nat} {x0 x1 x2 x3 : Value} {K : Look} {wh sp : Bool} {gg : Int} {v : Value} {rs : List (List Int)} (h : Blk 108 W g2 [x0, x1, x2, x3]) (hB : Below w.heap.size w W) (hg : w.heap.size ≤ g2) (hO : OwnV 9 W w.heap.size v (rs.map strV)) (hw : wh = K.whole) (hr : wh = true → sp = K.spoilt ∧ gg = K.gen ∧ rs = K.recs) :
    Blk 108 ((((W.setCell ⟨g2, 0, none⟩ (.bool wh)).setCell ⟨g2, 1, none⟩ (.bool sp)).setCell ⟨g2, 2, none⟩ (.int .u64 gg)).setCell ⟨g2, 3, none⟩ v) g2 [.bool wh, .bool sp, .int .u64 gg, v] ∧ RetLook w K (.returned (.agg #[.bool wh, .bool sp, .int .u64 gg, v])) ((((W.setCell ⟨g2, 0, none⟩ (.bool wh)).setCell ⟨g2, 1, none⟩ (.bool sp)).setCell ⟨g2, 2, none⟩ (.int .u64 gg)).setCell ⟨g2, 3, none⟩ v) := by
  refine ⟨set4 h _ _ _ _, wh, sp, gg, v, rs, rfl, ?_, below_grown hB (grown4 W g2 _ _ _ _) hg hB.size, hw, hr⟩
  refine hO.grown (grown4 W g2 _ _ _ _) (fun k hk e => ?_)
  obtain ⟨_, cs, h2⟩ := ownV_block hO hk
  obtain rfl : g2 = k := by simpa using e
  unfold Blk at h
  rw [h] at h2
  simp only [Option.some.injEq, Obj.cells.injEq] at h2
  exact absurd h2.2.1 (by decide)
set_option maxRecDepth 100000 in
set_option maxHeartbeats 2000000 in
theorem look_any (l : List Int) (w : World) (hY : Byt l) (hl : l.length ≤ 4194304) :
    Calls Try.prog 61 #[.string (strOfNums l)] w (RetLook w (lookL l)) := by
  have hz := strOfNums_size l
  have HKL := Lib.hid (show lookL l = lookR (decide ((scanL l).2 = l.length)) (scanL l).1 from rfl)
  have HYl := Lib.hid hY
  obtain ⟨m, hm⟩ : ∃ m, l.length = m := ⟨_, rfl⟩
  have hB0 : Below w.heap.size w (w.alloc (.cells #[.bool false, .bool false, .int .u64 0, .slice none 0 0] 108)) := (Below.refl _ _).alloc (Nat.le_refl _) _
  have hZ0 : Blk 108 (w.alloc (.cells #[.bool false, .bool false, .int .u64 0, .slice none 0 0] 108)) w.heap.size fileZ := heap_alloc_new w _
  have HS0 : Hid ((w.alloc (.cells #[.bool false, .bool false, .int .u64 0, .slice none 0 0] 108)).heap.size = w.heap.size + 1) := by show _ = _; simp
  go_enter Try.func61, Try.ntmps61
  go_upto_region 1 with (fail)
  generalize w.alloc (.cells #[.bool false, .bool false, .int .u64 0, .slice none 0 0] 108) = w0 at *
  go_wp2_with (with_reducible refine wpList_of_string rfl (.tmp 9) 9 35 5 rfl Try.underlying9 Try.underlying35 Try.underlying5 l m hm hY ?hk1 rfl ?_)
  case hk1 => omega
  intro A1 c1 w1 hR1 hc1 hc1m hB1
  have C1 := Lib.hid (ref3.scan3_any A1 m c1 l w1 hR1 hY (by omega) hc1 hc1m)
  go_wp2_with fail
  refine C1.out.mono ?_
  rintro e w2 ⟨A, n, c, xs, L, q, rfl, hxn, hLn, hS, hO, hOs, hB2⟩
  have hSL := scanL_eq hY hS
  rw [hSL] at HKL
  have hgood := hS.1.good hY (by omega) (by omega)
  have HQL := Lib.hid hgood.2.1
  have hn4 : n ≤ 4194304 := by have := hgood.1; have := hgood.2.1; omega
  have hR := rds_of hO hxn hLn hOs
  have hB02 := hB1.trans (hB2.mono hB1.size)
  have hBw2 := hB0.trans (hB02.mono hB0.size)
  have hlt2 : w.heap.size < w2.heap.size := by have := hB02.size; have := HS0.out; omega
  have hZ2 : Blk 108 w2 w.heap.size fileZ := Blk.below hZ0 hB02 (by have := HS0.out; omega)
  have hBa : Below w2.heap.size w2 (w2.alloc (.cells #[.bool false, .bool false, .int .u64 0, .slice none 0 0] 108)) := (Below.refl _ _).alloc (Nat.le_refl _) _
  have hZ3 : Blk 108 (w2.alloc (.cells #[.bool false, .bool false, .int .u64 0, .slice none 0 0] 108)) w.heap.size fileZ := Blk.below hZ2 hBa hlt2
  have hF3 : Blk 108 (w2.alloc (.cells #[.bool false, .bool false, .int .u64 0, .slice none 0 0] 108)) w2.heap.size fileZ := heap_alloc_new w2 _
  have hBw3 := hBw2.trans (hBa.mono hBw2.size)
  have hR3 := hR.on hBa hBa.size
  have hx3 : (w2.alloc (.cells #[.bool false, .bool false, .int .u64 0, .slice none 0 0] 108)).heap.size = w2.heap.size + 1 := by simp
  have hRb := hR
  have HBw2 := Lib.hid hBw2
  clear C1 hZ0 hB0 hR1 hO hOs hB1 hB2 hB02 hSL hZ2 hR hBw2
  have HS := Lib.hid hS
  clear hS
  go_upto_region 3 with (fail)
  generalize w2.alloc (.cells #[.bool false, .bool false, .int .u64 0, .slice none 0 0] 108) = w3 at *
  have z0 := hZ3.cell 0
  have z1 := hZ3.cell 1
  have z2 := hZ3.cell 2
  have z3 := hZ3.cell 3
  have f0 := hF3.cell 0
  have f1 := hF3.cell 1
  have f2 := hF3.cell 2
  have f3 := hF3.cell 3
  have zf := fun i => hZ3.frozen i
  have ff := fun i => hF3.frozen i
  unfold fileZ at z0 z1 z2 z3 f0 f1 f2 f3
  simp only [List.getElem?_cons_zero, List.getElem?_cons_succ] at z0 z1 z2 z3 f0 f1 f2 f3
  rcases L with _ | ⟨r, L⟩
  · obtain rfl : n = 0 := by simpa using hLn.symm
    have hK : (lookL l).whole = false := by rw [HKL.out, lookR_nil]
    clear hR3 hgood
    go_wp2_with fail
    obtain ⟨s2, hfin⟩ := look_end (w := w) (W := w3) (g2 := w.heap.size) (K := lookL l) (wh := false) (sp := false) (gg := 0) (v := (.slice none 0 0)) hZ3 hBw3 (Nat.le_refl _) (OwnV.nil _ _ _) (rs := []) hK.symm (fun k => nomatch k)
    generalize ((((World.setCell w3 ⟨w.heap.size, 0, none⟩ (.bool false)).setCell ⟨w.heap.size, 1, none⟩ (.bool false)).setCell ⟨w.heap.size, 2, none⟩ (.int .u64 0)).setCell ⟨w.heap.size, 3, none⟩ (.slice none 0 0)) = wf at *
    have r0 := s2.cell 0
    have r1 := s2.cell 1
    have r2 := s2.cell 2
    have r3 := s2.cell 3
    simp only [List.getElem?_cons_zero, List.getElem?_cons_succ] at r0 r1 r2 r3
    (try simp only [Exit.inBlock, Exit.then])
    show bodyPost Try.prog Try.f61 (RetLook w (lookL l)) Exit.ret _ wf
    refine bodyPost_ret (by simp [results, Try.results61, go_sem, r0, r1, r2, r3]; try rfl) rfl ?_
    exact hfin
  have hn1 : 0 < n := by simp at hLn; omega
  obtain ⟨b, o, A0, c0, r', rfl, hb, hr0, ha, hc0, hc0m, hR0⟩ := hR3.at2 hn1
  obtain rfl : r = r' := by simpa using hr0
  have hgr := hgood.2.2 r (List.mem_cons_self ..)
  have HGL := Lib.hid (show ∀ s ∈ L, Byt s ∧ s.length ≤ 1048576 from fun s hs => hgood.2.2 s (List.mem_cons_of_mem _ hs))
  have HR3 := Lib.hid hR3
  have i0 : (0 : Int) ≤ 0 ∧ (0 : Int) < n := by omega
  rw [Nat.add_zero] at ha
  clear hR3 hgood hr0
  obtain ⟨k, hk⟩ : ∃ k, r.length = k := ⟨_, rfl⟩
  rw [hk] at ha hc0 hR0
  by_cases h9 : ¬ k = 9
  · have hK : (lookL l).whole = false := by rw [HKL.out, lookR_cons, if_pos (by unfold genOf; rw [if_neg (by rw [hk]; exact fun h => h9 h.1)])]
    have h9' : ((k : Int) != 9) = true := by simp; omega
    have h9'' : ¬ (k : Int) = 9 := by omega
    clear h9
    go_wp2_with fail
    obtain ⟨s2, hfin⟩ := look_end (w := w) (W := w3) (g2 := w.heap.size) (K := lookL l) (wh := false) (sp := false) (gg := 0) (v := (.slice none 0 0)) hZ3 hBw3 (Nat.le_refl _) (OwnV.nil _ _ _) (rs := []) hK.symm (fun k => nomatch k)
    generalize ((((World.setCell w3 ⟨w.heap.size, 0, none⟩ (.bool false)).setCell ⟨w.heap.size, 1, none⟩ (.bool false)).setCell ⟨w.heap.size, 2, none⟩ (.int .u64 0)).setCell ⟨w.heap.size, 3, none⟩ (.slice none 0 0)) = wf at *
    have r0 := s2.cell 0
    have r1 := s2.cell 1
    have r2 := s2.cell 2
    have r3 := s2.cell 3
    simp only [List.getElem?_cons_zero, List.getElem?_cons_succ] at r0 r1 r2 r3
    (try simp only [Exit.inBlock, Exit.then])
    show bodyPost Try.prog Try.f61 (RetLook w (lookL l)) Exit.ret _ wf
    refine bodyPost_ret (by simp [results, Try.results61, go_sem, r0, r1, r2, r3]; try rfl) rfl ?_
    exact hfin
  obtain rfl : k = 9 := by omega
  obtain ⟨x, t, rfl⟩ : ∃ x t, r = x :: t := by
    rcases r with _ | ⟨x, t⟩
    · cases hk
    · exact ⟨x, t, rfl⟩
  obtain ⟨b9, o9, rfl, hb9, hc9⟩ := hR0.2 (by omega)
  have ha9 := hc9 0 (by omega)
  rw [show (x :: t).getD 0 0 = x from rfl, Nat.add_zero] at ha9
  by_cases h71 : ¬ x = 71
  · have hK : (lookL l).whole = false := by rw [HKL.out, lookR_cons, if_pos (by unfold genOf; rw [if_neg (fun h => h71 (by simpa using h.2.1))])]
    have h71' : (x != 71) = true := by simpa using h71
    clear h9 hc9
    go_wp2_with fail
    obtain ⟨s2, hfin⟩ := look_end (w := w) (W := w3) (g2 := w.heap.size) (K := lookL l) (wh := false) (sp := false) (gg := 0) (v := (.slice none 0 0)) hZ3 hBw3 (Nat.le_refl _) (OwnV.nil _ _ _) (rs := []) hK.symm (fun k => nomatch k)
    generalize ((((World.setCell w3 ⟨w.heap.size, 0, none⟩ (.bool false)).setCell ⟨w.heap.size, 1, none⟩ (.bool false)).setCell ⟨w.heap.size, 2, none⟩ (.int .u64 0)).setCell ⟨w.heap.size, 3, none⟩ (.slice none 0 0)) = wf at *
    have r0 := s2.cell 0
    have r1 := s2.cell 1
    have r2 := s2.cell 2
    have r3 := s2.cell 3
    simp only [List.getElem?_cons_zero, List.getElem?_cons_succ] at r0 r1 r2 r3
    (try simp only [Exit.inBlock, Exit.then])
    show bodyPost Try.prog Try.f61 (RetLook w (lookL l)) Exit.ret _ wf
    refine bodyPost_ret (by simp [results, Try.results61, go_sem, r0, r1, r2, r3]; try rfl) rfl ?_
    exact hfin
  obtain rfl : x = 71 := by simpa using h71
  have ht8 : t.length = 8 := by simpa using hk
  have hYt : Byt t := fun y hy => hgr.1 y (List.mem_cons_of_mem _ hy)
  have C2 := Lib.hid (rget_ok (some ⟨b9, o9, none⟩) 9 c0 (71 :: t) 1 8 w3 _ hR0 hgr.1 (by omega) (by omega) (by omega) (by omega))
  rw [show ((71 :: t).drop 1).take 8 = t by simp [← ht8]] at C2
  have HGen := Lib.hid (show genOf (71 :: t) = if 1 ≤ beV t ∧ beV t < 4611686018427387904 then beV t else 0 by
    unfold genOf
    by_cases hc : 1 ≤ beV t ∧ beV t < 4611686018427387904
    · rw [if_pos ⟨by simp [ht8], by simp, by simpa using hc.1, by simpa using hc.2⟩, if_pos hc]; rfl
    · rw [if_neg (fun h => hc ⟨by simpa using h.2.2.1, by simpa using h.2.2.2⟩), if_neg hc])
  have hg0 := (beV_bound t hYt).1
  have hg1 : beV t < 18446744073709551616 := by have := (beV_bound t hYt).2; rw [ht8] at this; simpa using this
  generalize beV t = G at *
  have hne : w.heap.size ≠ w2.heap.size := by omega
  have hZ4 : Blk 108 (w3.setCell ⟨w2.heap.size, 2, none⟩ (.int .u64 G)) w.heap.size fileZ := hZ3.far hne _
  have hF4 : Blk 108 (w3.setCell ⟨w2.heap.size, 2, none⟩ (.int .u64 G)) w2.heap.size [.bool false, .bool false, .int .u64 G, .slice none 0 0] := hF3.set_ 2 _
  have hG4 := grown_set w3 w2.heap.size 2 (.int .u64 G)
  have hB4 : Below w2.heap.size w2 (w3.setCell ⟨w2.heap.size, 2, none⟩ (.int .u64 G)) := below_grown hBa hG4 (Nat.le_refl _) (by omega)
  have hBw4 : Below w.heap.size w (w3.setCell ⟨w2.heap.size, 2, none⟩ (.int .u64 G)) := below_grown hBw3 hG4 (by omega) hBw3.size
  clear h9 h71 hc9 hR0
  have H4 := Lib.hid (And.intro hZ4 (And.intro hF4 (And.intro hB4 hBw4)))
  clear hZ4 hF4 hB4 hBw4 hG4
  go_wp2_with fail
  refine C2.out.mono ?_
  rintro e w3' ⟨rfl, rfl⟩
  go_upto_region 6 with (fail)
  generalize w3.setCell ⟨w2.heap.size, 2, none⟩ (.int .u64 G) = w4 at *
  obtain ⟨hZ4, hF4, hB4, hBw4⟩ := H4.out
  clear z0 z1 z2 z3 f0 f1 f2 f3 zf ff hZ3 hF3 hBw3 hBa HR3 ha ha9 C2 hx3
  have z0 := hZ4.cell 0
  have z1 := hZ4.cell 1
  have z2 := hZ4.cell 2
  have z3 := hZ4.cell 3
  have f0 := hF4.cell 0
  have f1 := hF4.cell 1
  have f2 := hF4.cell 2
  have f3 := hF4.cell 3
  have zf := fun i => hZ4.frozen i
  unfold fileZ at z0 z1 z2 z3
  simp only [List.getElem?_cons_zero, List.getElem?_cons_succ] at z0 z1 z2 z3 f0 f1 f2 f3
  by_cases hG1 : G < 1
  · have hK : (lookL l).whole = false := by rw [HKL.out, lookR_cons, if_pos (by rw [HGen.out, if_neg (by omega)])]
    go_wp2_with fail
    obtain ⟨s2, hfin⟩ := look_end (w := w) (W := w4) (g2 := w.heap.size) (K := lookL l) (wh := false) (sp := false) (gg := G) (v := (.slice none 0 0)) hZ4 hBw4 (Nat.le_refl _) (OwnV.nil _ _ _) (rs := []) hK.symm (fun k => nomatch k)
    generalize ((((World.setCell w4 ⟨w.heap.size, 0, none⟩ (.bool false)).setCell ⟨w.heap.size, 1, none⟩ (.bool false)).setCell ⟨w.heap.size, 2, none⟩ (.int .u64 G)).setCell ⟨w.heap.size, 3, none⟩ (.slice none 0 0)) = wf at *
    have r0 := s2.cell 0
    have r1 := s2.cell 1
    have r2 := s2.cell 2
    have r3 := s2.cell 3
    simp only [List.getElem?_cons_zero, List.getElem?_cons_succ] at r0 r1 r2 r3
    (try simp only [Exit.inBlock, Exit.then])
    show bodyPost Try.prog Try.f61 (RetLook w (lookL l)) Exit.ret _ wf
    refine bodyPost_ret (by simp [results, Try.results61, go_sem, r0, r1, r2, r3]; try rfl) rfl ?_
    exact hfin
  by_cases hG2 : 4611686018427387904 ≤ G
  · have hK : (lookL l).whole = false := by rw [HKL.out, lookR_cons, if_pos (by rw [HGen.out, if_neg (by omega)])]
    go_wp2_with fail
    obtain ⟨s2, hfin⟩ := look_end (w := w) (W := w4) (g2 := w.heap.size) (K := lookL l) (wh := false) (sp := false) (gg := G) (v := (.slice none 0 0)) hZ4 hBw4 (Nat.le_refl _) (OwnV.nil _ _ _) (rs := []) hK.symm (fun k => nomatch k)
    generalize ((((World.setCell w4 ⟨w.heap.size, 0, none⟩ (.bool false)).setCell ⟨w.heap.size, 1, none⟩ (.bool false)).setCell ⟨w.heap.size, 2, none⟩ (.int .u64 G)).setCell ⟨w.heap.size, 3, none⟩ (.slice none 0 0)) = wf at *
    have r0 := s2.cell 0
    have r1 := s2.cell 1
    have r2 := s2.cell 2
    have r3 := s2.cell 3
    simp only [List.getElem?_cons_zero, List.getElem?_cons_succ] at r0 r1 r2 r3
    (try simp only [Exit.inBlock, Exit.then])
    show bodyPost Try.prog Try.f61 (RetLook w (lookL l)) Exit.ret _ wf
    refine bodyPost_ret (by simp [results, Try.results61, go_sem, r0, r1, r2, r3]; try rfl) rfl ?_
    exact hfin
  have HKL2 := Lib.hid (show lookL l = ⟨(lookT (decide ((q : Int) = l.length)) false L).1, (lookT (decide ((q : Int) = l.length)) false L).2.1, G, (lookT (decide ((q : Int) = l.length)) false L).2.2⟩ by
    have hgg : genOf (71 :: t) = G := by rw [HGen.out, if_pos ⟨by omega, by omega⟩]
    rw [HKL.out, lookR_cons, if_neg (by omega), hgg])
  have hL1 : n = L.length + 1 := by simpa using hLn.symm
  have HLN := Lib.hid hL1
  obtain ⟨all, hall⟩ : ∃ all, decide ((q : Int) = l.length) = all := ⟨_, rfl⟩
  rw [hall] at HKL2
  have HQA := Lib.hid hall
  clear hall HKL HGen
  clear z0 z1 z2 z3 f0 f1 f3 zf hLn hL1
  have HRb := Lib.hid hRb
  clear hRb hgr hk hYt ht8
  go_wp2_with fail
  go_loopw [6] (fun i wr => ∃ (j : Nat) (wh : Bool) (v : Value) (rs : List (List Int)), 1 ≤ j ∧ j ≤ n ∧ i = .int .i64 j ∧ Blk 108 wr w2.heap.size [.bool wh, .bool false, .int .u64 G, v] ∧ Blk 108 wr w.heap.size fileZ ∧ OwnV 9 wr w2.heap.size v (rs.map strV) ∧ Below w2.heap.size w2 wr ∧ rs.length ≤ j ∧ Hid (TT all false L [] = TT all wh (L.drop (j - 1)) rs)) (fun i _ => n - (intOf i).toNat)
  case atStart => exact ⟨1, false, _, [], by omega, by omega, rfl, hF4, hZ4, OwnV.nil _ _ _, hB4, by simp, rfl⟩
  case round =>
    obtain ⟨j, wh, v, rs, hj1, hjn, rfl, hF, hZ, hO, hB, hrs, hT⟩ := hrel
    have hsl := hO.slice
    rw [List.length_map] at hsl
    obtain ⟨Av, cv, rfl, hcv, hcvm, _⟩ := hsl
    have hln : (rs.map strV).length = rs.length := List.length_map _
    obtain ⟨nv, hnv⟩ : ∃ nv, rs.length = nv := ⟨_, rfl⟩
    rw [hnv] at hln hF hO
    have hnvb : nv ≤ 4194304 := by omega
    have HLv := Lib.hid hln
    have HNV := Lib.hid hnv
    clear hln
    have f0 := hF.cell 0
    have f1 := hF.cell 1
    have f2 := hF.cell 2
    have f3 := hF.cell 3
    have z0 := hZ.cell 0
    have z1 := hZ.cell 1
    have z2 := hZ.cell 2
    have z3 := hZ.cell 3
    have ff := fun i => hF.frozen i
    have zf := fun i => hZ.frozen i
    unfold fileZ at z0 z1 z2 z3
    simp only [List.getElem?_cons_zero, List.getElem?_cons_succ] at f0 f1 f2 f3 z0 z1 z2 z3
    by_cases hlt : j < n
    · obtain ⟨b', o', Aj, cj, r, hA, hb', hr, ha, hcj, hcjm, hRj⟩ := (HRb.out.below hB).at2 hlt
      simp only [Option.some.injEq, Addr.mk.injEq, and_true] at hA
      obtain ⟨rfl, rfl⟩ := hA
      have hr1 : L[j - 1]? = some r := by
        obtain ⟨j', rfl⟩ : ∃ j', j = j' + 1 := ⟨j - 1, by omega⟩
        simpa using hr
      have hgr := HGL.out r (List.mem_of_getElem? hr1)
      have hdrop : L.drop (j - 1) = r :: L.drop j := by
        have h1 := (List.getElem?_eq_some_iff.1 hr1)
        obtain ⟨h1, h2⟩ := h1
        rw [List.drop_eq_getElem_cons h1, h2, show j - 1 + 1 = j by omega]
      rw [hdrop] at hT
      have hcv := run_string_rd wr 35 5 9 Try.underlying35 Try.underlying5 Try.underlying9 _ Aj r.length cj r hRj
      have i0 : (0 : Int) ≤ j ∧ (j : Int) < n := by omega
      have HT := Lib.hid hT
      clear hr hr1 hdrop hT
      generalize r.length = kr at *
      have hgs := fun (i : Nat) (u : Value) => grown_set wr w2.heap.size i u
      by_cases hE : r = [69] ∧ wh = false
      · obtain ⟨rfl, rfl⟩ := hE
        have s1 : (strOfNums [69]).toList = [69] := by rw [str_list hgr.1]; rfl
        clear f1 f2 f3 z0 z1 z2 z3 zf
        go_wp2_with fail
        go_roundw
        case rel => exact ⟨j + 1, true, _, rs, by omega, by omega, by go_num, hF.set_ 0 _, hZ.far hne _, hO.grown (hgs 0 _) (fun k hk e => own_ne hF hO hk (by simpa using e)), below_grown hB (hgs 0 _) (Nat.le_refl _) (by have := hB.size; omega), by omega, by show _ = _; rw [HT.out.out, TT_E ⟨rfl, rfl⟩, Nat.add_sub_cancel]⟩
        case measure => simp [intOf]; omega
      · by_cases h82 : r.head? = some 82
        · obtain ⟨t2, rfl⟩ : ∃ t2, r = 82 :: t2 := by
            rcases r with _ | ⟨x, t2⟩
            · cases h82
            · simp at h82; exact ⟨t2, by rw [h82]⟩
          have s1 : ¬ (strOfNums (82 :: t2)).toList = [69] := by rw [str_list hgr.1]; simp
          have s2 : (strOfNums (82 :: t2)).toList.isEmpty = false := by rw [str_list hgr.1]; rfl
          have s3 : ∀ h, (strOfNums (82 :: t2))[0]'h = 82 := fun h => rfl
          have s4 : (strOfNums (82 :: t2)).size = t2.length + 1 := by rw [strOfNums_size]; rfl
          have s5 : (strOfNums (82 :: t2)).extract 1 (t2.length + 1) = strOfNums t2 := by
            apply ByteArray.ext
            simp only [strOfNums, ByteArray.data_extract, List.map_cons, List.extract_toArray, List.extract_eq_take_drop, List.drop_succ_cons, List.drop_zero, Nat.add_sub_cancel]
            rw [List.take_of_length_le (by simp)]
          have s6 : (1 : Int) ≤ (t2.length : Int) + 1 := by omega
          have HGR := Lib.hid hgr
          clear hgr
          generalize strOfNums (82 :: t2) = T at *
          clear f0 f1 f2 z0 z1 z2 z3 zf
          have hlt6 : w2.heap.size < wr.heap.size := hF.lt
          have HSr := Lib.hid (show ∀ wq, Below wr.heap.size wr wq → wq.cell? ⟨w2.heap.size, 3, none⟩ = some (.slice Av nv cv) from fun wq hq => (hF.below hq hlt6).cell 3)
          have HO6 := Lib.hid (show OwnV 9 (wr.drew.alloc (.cells #[.string (strOfNums t2)] 9)) w2.heap.size (.slice Av nv cv) (rs.map strV) from hO.below (((Below.refl _ _).drew).alloc (Nat.le_refl _) _))
          have HF6 := Lib.hid (show Blk 108 (wr.drew.alloc (.cells #[.string (strOfNums t2)] 9)) w2.heap.size [.bool wh, .bool false, .int .u64 G, .slice Av nv cv] from hF.below (((Below.refl _ _).drew).alloc (Nat.le_refl _) _) hlt6)
          go_upto_region 17 with (fail)
          refine tail.region (S := fun wq => wq.cell? ⟨w2.heap.size, 3, none⟩ = some (.slice Av nv cv)) [7] (by kernel_rfl) (HSr.out _ ((Below.refl _ _).drew)) (fun hHeld => ?_)
          refine tail.take (i := 0) (oi := { dst := some 78, op := Go.Op.fieldAddr 108 (Go.Operand.tmp 5) 3, type := 0, pos := "ref.go:49", after := #[], guard := none }) (v := ?v_0_1) rfl (by kernel_rfl) (by kernel_rfl) (by kernel_rfl) (fun _ _ _ h => h) (Or.inl ⟨by rfl, ?y_0_1⟩) (by assumption) (by kernel_rfl) (by kernel_rfl) ?_
          case y_0_1 => (intro wq hSw; (try dsimp only at hSw); go_simp; first | done | with_reducible rfl)
          try simp only [Act.put, List.setIfInBounds_toArray, List.set_cons_zero, List.set_cons_succ]
          refine tail.take (i := 2) (oi := { dst := some 80, op := Go.Op.move (Go.Operand.tmp 7), type := 9, pos := "ref.go:49", after := #[], guard := none }) (v := ?v_2_1) rfl (by kernel_rfl) (by kernel_rfl) (by kernel_rfl) (fun _ _ _ h => h) (Or.inl ⟨by rfl, ?y_2_1⟩) (by assumption) (by kernel_rfl) (by kernel_rfl) ?_
          case y_2_1 => (intro wq hSw; (try dsimp only at hSw); go_simp; first | done | with_reducible rfl)
          try simp only [Act.put, List.setIfInBounds_toArray, List.set_cons_zero, List.set_cons_succ]
          refine tail.take (i := 3) (oi := { dst := some 81, op := Go.Op.slice 9 (Go.Operand.tmp 80) (some (Go.Operand.const (Go.Value.int Go.IntKind.i64 1))) none none, type := 9, pos := "ref.go:49", after := #[{ on := 2, ground := Go.Ground.data }], guard := none }) (v := ?v_3_1) rfl (by kernel_rfl) (by kernel_rfl) (by kernel_rfl) (fun _ _ _ h => h) (Or.inl ⟨by rfl, ?y_3_1⟩) (by assumption) (by kernel_rfl) (by kernel_rfl) ?_
          case y_3_1 => (intro wq hSw; (try dsimp only at hSw); go_simp; first | done | with_reducible rfl)
          try simp only [Act.put, List.setIfInBounds_toArray, List.set_cons_zero, List.set_cons_succ]
          refine tail.take (i := 1) (oi := { dst := some 79, op := Go.Op.load 44 (Go.Operand.tmp 78), type := 44, pos := "ref.go:49", after := #[{ on := 0, ground := Go.Ground.data }], guard := none }) (v := ?v_1_1) rfl (by kernel_rfl) (by kernel_rfl) (by kernel_rfl) (fun _ _ _ h => h) (Or.inl ⟨by rfl, ?y_1_1⟩) (by assumption) (by kernel_rfl) (by kernel_rfl) ?_
          case y_1_1 => (intro wq hSw; (try dsimp only at hSw); go_simp; first | done | with_reducible rfl)
          try simp only [Act.put, List.setIfInBounds_toArray, List.set_cons_zero, List.set_cons_succ]
          refine tail.next (i := 4) (o := { dst := some 82, op := Go.Op.buildSlice 44 1 #[(0, Go.Operand.tmp 81)], type := 44, pos := "ref.go:49", after := #[{ on := 3, ground := Go.Ground.data }], guard := none }) rfl (by kernel_rfl) (fun KQ hKQ => ?_)
          go_simp
          refine hKQ.out _ _ ?s_4 ?_
          case s_4 => exact .inr (HSr.out _ (((Below.refl _ _).drew).alloc (Nat.le_refl _) _))
          clear hKQ KQ
          try simp only [Act.put, List.setIfInBounds_toArray, List.set_cons_zero, List.set_cons_succ]
          refine tail.next (i := 5) (o := { dst := some 83, op := Go.Op.call { callee := Go.Callee.builtin Go.Builtin.append, args := #[Go.Operand.tmp 79, Go.Operand.tmp 82], argTypes := #[44, 44] }, type := 44, pos := "ref.go:49", after := #[{ on := 1, ground := Go.Ground.data }, { on := 4, ground := Go.Ground.data }], guard := none }) rfl (by kernel_rfl) (fun KQ hKQ => ?_)
          rw [if_pos (by rfl)]
          refine wp_append_vf (.tmp 79) (.tmp 82) 44 rfl w2.heap.size 9 (.string ⟨#[]⟩) 16 Try.underlying44 infoS rfl Av nv cv _ HLv.out rfl HO6.out _ _ 1 1 [_] rfl (RdV.one _ _ _) (by intro u hu; rw [List.mem_singleton] at hu; subst hu; rfl) (by omega) (by unfold maxLen; omega) (by simp; omega) ?_
          intro A7 c7 w7 hO7 hB7 hG7 hN7
          have hF7 : Blk 108 w7 w2.heap.size [.bool wh, .bool false, .int .u64 G, .slice Av nv cv] := (hG7.block w2.heap.size HF6.out.lt (fun e => own_ne hF hO e.symm rfl)).trans HF6.out
          have c7f := hF7.cell 3
          have f7f := hF7.frozen 3
          simp only [List.getElem?_cons_zero, List.getElem?_cons_succ] at c7f
          refine hKQ.out _ _ ?s_5 ?_
          case s_5 => exact .inr c7f
          clear hKQ KQ
          try simp only [Act.put, List.setIfInBounds_toArray, List.set_cons_zero, List.set_cons_succ]
          refine tail.take (i := 6) (oi := { dst := some 84, op := Go.Op.fieldAddr 108 (Go.Operand.tmp 5) 3, type := 0, pos := "ref.go:49", after := #[{ on := 0, ground := Go.Ground.phase }, { on := 1, ground := Go.Ground.phase }, { on := 2, ground := Go.Ground.phase }, { on := 3, ground := Go.Ground.phase }, { on := 4, ground := Go.Ground.phase }, { on := 5, ground := Go.Ground.phase }], guard := none }) (v := ?v_6_1) rfl (by kernel_rfl) (by kernel_rfl) (by kernel_rfl) (fun _ _ _ h => h) (Or.inl ⟨by rfl, ?y_6_1⟩) (by assumption) (by kernel_rfl) (by kernel_rfl) ?_
          case y_6_1 => (intro wq hSw; (try dsimp only at hSw); go_simp; first | done | with_reducible rfl)
          try simp only [Act.put, List.setIfInBounds_toArray, List.set_cons_zero, List.set_cons_succ]
          refine tail.next (i := 7) (o := { dst := none, op := Go.Op.store 44 (Go.Operand.tmp 84) (Go.Operand.tmp 83), type := 0, pos := "ref.go:49", after := #[{ on := 6, ground := Go.Ground.data }, { on := 5, ground := Go.Ground.data }, { on := 5, ground := Go.Ground.chain }, { on := 0, ground := Go.Ground.phase }, { on := 1, ground := Go.Ground.phase }, { on := 2, ground := Go.Ground.phase }, { on := 3, ground := Go.Ground.phase }, { on := 4, ground := Go.Ground.phase }, { on := 5, ground := Go.Ground.phase }], guard := none }) rfl (by kernel_rfl) (fun KQ hKQ => ?_)
          go_simp
          refine hKQ.out _ _ ?s_7 ?_
          case s_7 => exact .inl (by decide)
          clear hKQ KQ
          try simp only [Act.put, List.setIfInBounds_toArray, List.set_cons_zero, List.set_cons_succ]
          refine tail.done (by kernel_rfl) ?_ _
          have hB7w : Below w2.heap.size w2 w7 := hB.trans (Below.trans (((Below.refl w2.heap.size wr).drew).alloc (show w2.heap.size ≤ wr.heap.size by omega) _) hB7)
          have hZ6 : Blk 108 w7 w.heap.size fileZ := by
            have h1 : w7.heap[w.heap.size]? = wr.heap[w.heap.size]? := (hB7.block _ hlt2).trans ((((Below.refl wr.heap.size wr).drew).alloc (Nat.le_refl _) (.cells #[.string (strOfNums t2)] 9)).block _ (by omega))
            unfold Blk
            rw [h1]
            exact hZ
          go_wp2_with fail
          go_roundw
          case rel => exact ⟨j + 1, wh, _, rs ++ [t2], by omega, by omega, by go_num, hF7.set_ 3 _, hZ6.far hne _, by rw [List.map_append]; exact hO7.grown (grown_set w7 w2.heap.size 3 _) (fun k hk e => own_ne hF7 hO7 hk (by simpa using e)), below_grown hB7w (grown_set w7 w2.heap.size 3 _) (Nat.le_refl _) (by have := hB7w.size; omega), by rw [List.length_append]; have := HNV.out; simp; omega, by show _ = _; rw [HT.out.out, TT_R, Nat.add_sub_cancel]⟩
          case measure => simp [intOf]; omega
        · have HK := Lib.hid (show lookL l = ⟨wh, true, G, rs⟩ by
            have h1 := HT.out.out
            rw [TT_X hE h82] at h1
            unfold TT at h1
            simp only [Prod.mk.injEq, List.nil_append] at h1
            rw [HKL2.out, h1.1, h1.2.1, h1.2.2])
          have HGR := Lib.hid hgr
          have hBW : Below w.heap.size w (wr.setCell ⟨w2.heap.size, 1, none⟩ (.bool true)) := below_grown (HBw2.out.trans (hB.mono HBw2.out.size)) (hgs 1 _) (by omega) (by have := hB.size; omega)
          have hOW : OwnV 9 (wr.setCell ⟨w2.heap.size, 1, none⟩ (.bool true)) w.heap.size (.slice Av nv cv) (rs.map strV) := (hO.grown (hgs 1 _) (fun k hk e => own_ne hF hO hk (by simpa using e))).more (by omega)
          have hZW : Blk 108 (wr.setCell ⟨w2.heap.size, 1, none⟩ (.bool true)) w.heap.size fileZ := hZ.far hne _
          have HW := Lib.hid (And.intro hBW (And.intro hOW hZW))
          clear hBW hOW hZW
          by_cases h69 : r = [69]
          · subst h69
            have hwt : wh = true := by
              rcases wh with _ | _
              · exact absurd ⟨rfl, rfl⟩ hE
              · rfl
            subst hwt
            have s1 : (strOfNums [69]).toList = [69] := by rw [str_list hgr.1]; rfl
            have s2 : (strOfNums [69]).toList.isEmpty = false := by rw [str_list hgr.1]; rfl
            have s3 : ∀ h, (strOfNums [69])[0]'h = 69 := fun h => rfl
            have s4 : (strOfNums [69]).size = 1 := rfl
            clear hgr hE h82
            generalize strOfNums [69] = T at *
            go_wp2_with fail
            obtain ⟨s2, hfin⟩ := look_end (w := w) (W := (wr.setCell ⟨w2.heap.size, 1, none⟩ (.bool true))) (g2 := w.heap.size) (K := lookL l) (wh := true) (sp := true) (gg := G) (v := (.slice Av nv cv)) HW.out.2.2 HW.out.1 (Nat.le_refl _) HW.out.2.1 (by rw [HK.out]) (fun _ => by rw [HK.out]; exact ⟨rfl, rfl, rfl⟩)
            generalize ((((World.setCell (wr.setCell ⟨w2.heap.size, 1, none⟩ (.bool true)) ⟨w.heap.size, 0, none⟩ (.bool true)).setCell ⟨w.heap.size, 1, none⟩ (.bool true)).setCell ⟨w.heap.size, 2, none⟩ (.int .u64 G)).setCell ⟨w.heap.size, 3, none⟩ (.slice Av nv cv)) = wf at *
            have r0 := s2.cell 0
            have r1 := s2.cell 1
            have r2 := s2.cell 2
            have r3 := s2.cell 3
            simp only [List.getElem?_cons_zero, List.getElem?_cons_succ] at r0 r1 r2 r3
            (try simp only [Exit.inBlock, Exit.then])
            show bodyPost Try.prog Try.f61 (RetLook w (lookL l)) Exit.ret _ wf
            refine bodyPost_ret (by simp [results, Try.results61, go_sem, r0, r1, r2, r3]; try rfl) rfl ?_
            exact hfin
          · by_cases hnil : r = []
            · subst hnil
              have s1 : ¬ (strOfNums []).toList = [69] := by rw [str_list hgr.1]; simp
              have s2 : (strOfNums []).toList.isEmpty = true := by rw [str_list hgr.1]; rfl
              clear hgr hE h82 h69
              generalize strOfNums [] = T at *
              go_wp2_with fail
              obtain ⟨s2, hfin⟩ := look_end (w := w) (W := (wr.setCell ⟨w2.heap.size, 1, none⟩ (.bool true))) (g2 := w.heap.size) (K := lookL l) (wh := wh) (sp := true) (gg := G) (v := (.slice Av nv cv)) HW.out.2.2 HW.out.1 (Nat.le_refl _) HW.out.2.1 (by rw [HK.out]) (fun _ => by rw [HK.out]; exact ⟨rfl, rfl, rfl⟩)
              generalize ((((World.setCell (wr.setCell ⟨w2.heap.size, 1, none⟩ (.bool true)) ⟨w.heap.size, 0, none⟩ (.bool wh)).setCell ⟨w.heap.size, 1, none⟩ (.bool true)).setCell ⟨w.heap.size, 2, none⟩ (.int .u64 G)).setCell ⟨w.heap.size, 3, none⟩ (.slice Av nv cv)) = wf at *
              have r0 := s2.cell 0
              have r1 := s2.cell 1
              have r2 := s2.cell 2
              have r3 := s2.cell 3
              simp only [List.getElem?_cons_zero, List.getElem?_cons_succ] at r0 r1 r2 r3
              (try simp only [Exit.inBlock, Exit.then])
              show bodyPost Try.prog Try.f61 (RetLook w (lookL l)) Exit.ret _ wf
              refine bodyPost_ret (by simp [results, Try.results61, go_sem, r0, r1, r2, r3]; try rfl) rfl ?_
              exact hfin
            · obtain ⟨x, t2, rfl⟩ : ∃ x t2, r = x :: t2 := by
                rcases r with _ | ⟨x, t2⟩
                · exact absurd rfl hnil
                · exact ⟨x, t2, rfl⟩
              have hx := hgr.1 x (List.mem_cons_self ..)
              have hx82 : ¬ x = 82 := by simpa using h82
              have s1 : ¬ (strOfNums (x :: t2)).toList = [69] := by
                rw [str_list hgr.1]
                intro h
                simp only [List.map_cons, List.cons.injEq, List.map_eq_nil_iff] at h
                apply h69
                rw [h.2]
                have h1 := congrArg UInt8.toNat h.1
                rw [UInt8.toNat_ofNat'] at h1
                have h2 : x.toNat % 2 ^ 8 = 69 := h1
                have : x = 69 := by omega
                rw [this]
              have s2 : (strOfNums (x :: t2)).toList.isEmpty = false := by rw [str_list hgr.1]; rfl
              obtain ⟨y, hy⟩ : ∃ y : UInt8, y = UInt8.ofNat x.toNat := ⟨_, rfl⟩
              have s3 : ∀ h, (strOfNums (x :: t2))[0]'h = y := fun h => hy.symm ▸ rfl
              have s4 : (strOfNums (x :: t2)).size = t2.length + 1 := by rw [strOfNums_size]; rfl
              have s5 : ((y.toNat : Int) != 82) = true := by
                have h1 : y.toNat = x.toNat % 2 ^ 8 := by rw [hy, UInt8.toNat_ofNat']
                have h2 : ¬ (y.toNat : Int) = 82 := by omega
                simpa using h2
              have s6 : (0 : Int) < (t2.length : Int) + 1 := by omega
              clear hgr hE h82 h69 hnil hy hx hx82
              generalize strOfNums (x :: t2) = T at *
              go_wp2_with fail
              obtain ⟨s2, hfin⟩ := look_end (w := w) (W := (wr.setCell ⟨w2.heap.size, 1, none⟩ (.bool true))) (g2 := w.heap.size) (K := lookL l) (wh := wh) (sp := true) (gg := G) (v := (.slice Av nv cv)) HW.out.2.2 HW.out.1 (Nat.le_refl _) HW.out.2.1 (by rw [HK.out]) (fun _ => by rw [HK.out]; exact ⟨rfl, rfl, rfl⟩)
              generalize ((((World.setCell (wr.setCell ⟨w2.heap.size, 1, none⟩ (.bool true)) ⟨w.heap.size, 0, none⟩ (.bool wh)).setCell ⟨w.heap.size, 1, none⟩ (.bool true)).setCell ⟨w.heap.size, 2, none⟩ (.int .u64 G)).setCell ⟨w.heap.size, 3, none⟩ (.slice Av nv cv)) = wf at *
              have r0 := s2.cell 0
              have r1 := s2.cell 1
              have r2 := s2.cell 2
              have r3 := s2.cell 3
              simp only [List.getElem?_cons_zero, List.getElem?_cons_succ] at r0 r1 r2 r3
              (try simp only [Exit.inBlock, Exit.then])
              show bodyPost Try.prog Try.f61 (RetLook w (lookL l)) Exit.ret _ wf
              refine bodyPost_ret (by simp [results, Try.results61, go_sem, r0, r1, r2, r3]; try rfl) rfl ?_
              exact hfin
    · obtain rfl : j = n := by omega
      have HK0 := Lib.hid (show lookL l = ⟨wh, !all, G, rs⟩ by
        have h1 := hT.out
        rw [List.drop_eq_nil_of_le (by have := HLN.out; omega), TT_nil] at h1
        unfold TT at h1
        simp only [Prod.mk.injEq, List.nil_append] at h1
        rw [HKL2.out, h1.1, h1.2.1, h1.2.2])
      have hgs := fun (i : Nat) (u : Value) => grown_set wr w2.heap.size i u
      by_cases hq : (q : Int) = l.length
      · have HK := Lib.hid (show lookL l = ⟨wh, false, G, rs⟩ by rw [HK0.out, ← HQA.out, decide_eq_true hq]; rfl)
        have hq2 : ¬ (q : Int) < (m : Int) := by omega
        have hBW : Below w.heap.size w (wr.setCell ⟨w2.heap.size, 1, none⟩ (.bool false)) := below_grown (HBw2.out.trans (hB.mono HBw2.out.size)) (hgs 1 _) (by omega) (by have := hB.size; omega)
        have hOW : OwnV 9 (wr.setCell ⟨w2.heap.size, 1, none⟩ (.bool false)) w.heap.size (.slice Av nv cv) (rs.map strV) := (hO.grown (hgs 1 _) (fun k hk e => own_ne hF hO hk (by simpa using e))).more (by omega)
        have hZW : Blk 108 (wr.setCell ⟨w2.heap.size, 1, none⟩ (.bool false)) w.heap.size fileZ := hZ.far hne _
        have HW := Lib.hid (And.intro hBW (And.intro hOW hZW))
        rw [hm] at hz
        clear hBW hOW hZW hq hm
        go_wp2_with fail
        obtain ⟨s2, hfin⟩ := look_end (w := w) (W := (wr.setCell ⟨w2.heap.size, 1, none⟩ (.bool false))) (g2 := w.heap.size) (K := lookL l) (wh := wh) (sp := false) (gg := G) (v := (.slice Av nv cv)) HW.out.2.2 HW.out.1 (Nat.le_refl _) HW.out.2.1 (by rw [HK.out]) (fun _ => by rw [HK.out]; exact ⟨rfl, rfl, rfl⟩)
        generalize ((((World.setCell (wr.setCell ⟨w2.heap.size, 1, none⟩ (.bool false)) ⟨w.heap.size, 0, none⟩ (.bool wh)).setCell ⟨w.heap.size, 1, none⟩ (.bool false)).setCell ⟨w.heap.size, 2, none⟩ (.int .u64 G)).setCell ⟨w.heap.size, 3, none⟩ (.slice Av nv cv)) = wf at *
        have r0 := s2.cell 0
        have r1 := s2.cell 1
        have r2 := s2.cell 2
        have r3 := s2.cell 3
        simp only [List.getElem?_cons_zero, List.getElem?_cons_succ] at r0 r1 r2 r3
        (try simp only [Exit.inBlock, Exit.then])
        show bodyPost Try.prog Try.f61 (RetLook w (lookL l)) Exit.ret _ wf
        refine bodyPost_ret (by simp [results, Try.results61, go_sem, r0, r1, r2, r3]; try rfl) rfl ?_
        exact hfin
      · have HK := Lib.hid (show lookL l = ⟨wh, true, G, rs⟩ by rw [HK0.out, ← HQA.out, decide_eq_false hq]; rfl)
        have hq2 : (q : Int) < (m : Int) := by have := HQL.out; omega
        have hBW : Below w.heap.size w (wr.setCell ⟨w2.heap.size, 1, none⟩ (.bool true)) := below_grown (HBw2.out.trans (hB.mono HBw2.out.size)) (hgs 1 _) (by omega) (by have := hB.size; omega)
        have hOW : OwnV 9 (wr.setCell ⟨w2.heap.size, 1, none⟩ (.bool true)) w.heap.size (.slice Av nv cv) (rs.map strV) := (hO.grown (hgs 1 _) (fun k hk e => own_ne hF hO hk (by simpa using e))).more (by omega)
        have hZW : Blk 108 (wr.setCell ⟨w2.heap.size, 1, none⟩ (.bool true)) w.heap.size fileZ := hZ.far hne _
        have HW := Lib.hid (And.intro hBW (And.intro hOW hZW))
        rw [hm] at hz
        clear hBW hOW hZW hq hm
        go_wp2_with fail
        obtain ⟨s2, hfin⟩ := look_end (w := w) (W := (wr.setCell ⟨w2.heap.size, 1, none⟩ (.bool true))) (g2 := w.heap.size) (K := lookL l) (wh := wh) (sp := true) (gg := G) (v := (.slice Av nv cv)) HW.out.2.2 HW.out.1 (Nat.le_refl _) HW.out.2.1 (by rw [HK.out]) (fun _ => by rw [HK.out]; exact ⟨rfl, rfl, rfl⟩)
        generalize ((((World.setCell (wr.setCell ⟨w2.heap.size, 1, none⟩ (.bool true)) ⟨w.heap.size, 0, none⟩ (.bool wh)).setCell ⟨w.heap.size, 1, none⟩ (.bool true)).setCell ⟨w.heap.size, 2, none⟩ (.int .u64 G)).setCell ⟨w.heap.size, 3, none⟩ (.slice Av nv cv)) = wf at *
        have r0 := s2.cell 0
        have r1 := s2.cell 1
        have r2 := s2.cell 2
        have r3 := s2.cell 3
        simp only [List.getElem?_cons_zero, List.getElem?_cons_succ] at r0 r1 r2 r3
        (try simp only [Exit.inBlock, Exit.then])
        show bodyPost Try.prog Try.f61 (RetLook w (lookL l)) Exit.ret _ wf
        refine bodyPost_ret (by simp [results, Try.results61, go_sem, r0, r1, r2, r3]; try rfl) rfl ?_
        exact hfin
end Go.Proofs.Ytafdgibkhefplaa.ref5
