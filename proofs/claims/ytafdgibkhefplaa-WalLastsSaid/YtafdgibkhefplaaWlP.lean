/- What the program's own log's parse comes to: what a file says. Conditions: the slice's bytes are known. -/
import Derived.Test.YtafdgibkhefplaaWlF
import Derived.Test.YtafdgibkhefplaaJoin0
import Derived.Handy
import Derived.Deep.Cut
import Derived.Deep.RegionHeld3
namespace Go.Proofs.Ytafdgibkhefplaa.wal
open Go.RowKit Go.Proofs.Ytafdgibkhefplaa.kit Go.Proofs.Ytafdgibkhefplaa.nums Go.Proofs.Ytafdgibkhefplaa.ds Go.Proofs.Ytafdgibkhefplaa.disk Go.Proofs.Ytafdgibkhefplaa.ws Go.Proofs.Ytafdgibkhefplaa.rec_ Go.Proofs.Ytafdgibkhefplaa.bytes
set_option linter.unusedVariables false

theorem lookT_true (all : Bool) (L : List (List Int)) : lookT all true L = (true, (decide ((lead L).length < L.length) || !all), lead L) := by
  induction L with
  | nil => unfold lookT lead; simp
  | cons r L ih =>
    by_cases h : r.head? = some 82
    · have hl : lead (r :: L) = r.tail :: lead L := by rw [lead, if_pos h]
      rw [lookT_R (by simp) h, ih, hl]
      simp
    · have hl : lead (r :: L) = [] := by rw [lead, if_neg h]
      rw [lookT_X (by simp) h, hl]
      simp
theorem lookT_whole (all : Bool) : ∀ (L : List (List Int)), L[(lead L).length]? = some [69] → lookT all false L = (true, (decide ((lead (L.drop ((lead L).length + 1))).length < (L.drop ((lead L).length + 1)).length) || !all), lead L ++ lead (L.drop ((lead L).length + 1)))
  | [], h => by simp at h
  | r :: L, h => by
    by_cases hr : r.head? = some 82
    · have hl : lead (r :: L) = r.tail :: lead L := by rw [lead, if_pos hr]
      rw [hl] at h ⊢
      rw [List.length_cons, List.getElem?_cons_succ] at h
      rw [lookT_R (by rintro ⟨rfl, _⟩; simp at hr) hr, lookT_whole all L h]
      simp
    · have hl : lead (r :: L) = [] := by rw [lead, if_neg hr]
      rw [hl] at h ⊢
      simp at h
      rw [lookT_E ⟨h, rfl⟩, lookT_true]
      simp
theorem lookT_not (all : Bool) : ∀ (L : List (List Int)), ¬ L[(lead L).length]? = some [69] → (lookT all false L).1 = false
  | [], h => rfl
  | r :: L, h => by
    by_cases hr : r.head? = some 82
    · have hl : lead (r :: L) = r.tail :: lead L := by rw [lead, if_pos hr]
      rw [hl, List.length_cons, List.getElem?_cons_succ] at h
      rw [lookT_R (by rintro ⟨rfl, _⟩; simp at hr) hr]
      exact lookT_not all L h
    · have hl : lead (r :: L) = [] := by rw [lead, if_neg hr]
      rw [hl] at h
      simp at h
      rw [lookT_X (by rintro ⟨e, _⟩; exact h e) hr]
/-- What parse ends in. -/
def RetParse (W : World) (K : Look) (e : Ending) (w' : World) : Prop :=
  ∃ (gg : Int) (A : Option Addr) (n c : Nat) (xs : List Value) (M : List (List Int)) (dm : Bool), e = .returned (.agg #[.int .u64 gg, .slice A n c, .bool dm]) ∧ (K.whole = true → gg = K.gen ∧ dm = K.spoilt ∧ M = K.recs) ∧ (K.whole = false → gg = 0) ∧ M.length = n ∧ xs.length = n ∧ OwnV 35 w' W.heap.size (.slice A n c) xs ∧ SsF w' W.heap.size w'.heap.size xs M ∧ Below W.heap.size W w'
theorem own_slf {E : TypeId} {w : World} {base : Nat} {x : Value} {l : List Int} (h : Own E w base x l) : SlF w base w.heap.size x l := by
  obtain ⟨A, c, rfl, h1, h2, hR⟩ := h.slice
  refine ⟨A, c, rfl, h1, h2, hR.1, fun hn => ?_⟩
  obtain ⟨b, o, e, hb, hc⟩ := hR.2 hn
  obtain ⟨g, hg, hge⟩ := h.form hn
  cases hg.symm.trans e
  exact ⟨_, _, e, hge, hb, hb, hc⟩
theorem owns_ssf {E : TypeId} {w : World} {base : Nat} {xs : List Value} {L : List (List Int)} (h : OwnsOf E w base xs L) : SsF w base w.heap.size xs L := fun j x l hx hl => own_slf (h.1 j x l hx hl)
theorem set3 {E : TypeId} {W : World} {G : Nat} {x0 x1 x2 : Value} (h : Blk E W G [x0, x1, x2]) (a b c : Value) : Blk E (((W.setCell ⟨G, 0, none⟩ a).setCell ⟨G, 1, none⟩ b).setCell ⟨G, 2, none⟩ c) G [a, b, c] := ((h.set_ 0 a).set_ 1 b).set_ 2 c
theorem grown3 (W : World) (G : Nat) (a b c : Value) : W.grownBy (((W.setCell ⟨G, 0, none⟩ a).setCell ⟨G, 1, none⟩ b).setCell ⟨G, 2, none⟩ c) (some G) := grown_more (grown_more (grown_more (World.grownBy.refl _ _) _ _) _ _) _ _
def contZ : List Value := [.int .u64 0, .slice none 0 0, .bool false]
/-- Its end where the file is not whole. -/
theorem parse_not {w W : World} {g : Nat} {x0 x1 x2 : Value} {K : Look} (h : Blk 95 W g [x0, x1, x2]) (hB : Below w.heap.size w W) (hg : w.heap.size ≤ g) (hK : K.whole = false) :
    Blk 95 (((W.setCell ⟨g, 0, none⟩ (.int .u64 0)).setCell ⟨g, 1, none⟩ (.slice none 0 0)).setCell ⟨g, 2, none⟩ (.bool false)) g contZ ∧ RetParse w K (.returned (.agg #[.int .u64 0, .slice none 0 0, .bool false])) (((W.setCell ⟨g, 0, none⟩ (.int .u64 0)).setCell ⟨g, 1, none⟩ (.slice none 0 0)).setCell ⟨g, 2, none⟩ (.bool false)) := by
  refine ⟨set3 h _ _ _, 0, none, 0, 0, [], [], false, rfl, fun k => ?_, fun _ => rfl, rfl, rfl, OwnV.nil _ _ _, SsF.nil, hB.grown (grown3 W g _ _ _) hB.size (fun k hk => by cases hk; exact hg)⟩
  rw [hK] at k; cases k
theorem ssf_one {w : World} {base top : Nat} {xs : List Value} {L : List (List Int)} (h : SsF w base top xs L) (e : xs.length = L.length) : ∀ u ∈ xs, u.oneCell' = true := fun u hu => by
  obtain ⟨j, hj⟩ := List.getElem?_of_mem hu
  have hl : j < xs.length := (List.getElem?_eq_some_iff.1 hj).1
  obtain ⟨A, c, rfl, _⟩ := h j u _ hj (List.getElem?_eq_getElem (by omega))
  rfl
/-- Its end where the file is whole. -/
theorem parse_yes {w W : World} {g : Nat} {x0 x1 x2 : Value} {K : Look} {A : Option Addr} {n c t0 : Nat} {xs : List Value} {M : List (List Int)} {dm : Bool} (h : Blk 95 W g [x0, x1, x2]) (hB : Below w.heap.size w W) (hg : w.heap.size = g) (ht : g < t0) (ht2 : t0 ≤ W.heap.size) (hb : Nat) (hb0 : g < hb)
    (hK : K.whole = true) (hd : dm = K.spoilt) (hM : M = K.recs) (hMn : M.length = n) (hxn : xs.length = n) (hO : OwnV 35 W t0 (.slice A n c) xs) (hS : SsF W hb t0 xs M) :
    Blk 95 (((W.setCell ⟨g, 0, none⟩ (.int .u64 K.gen)).setCell ⟨g, 1, none⟩ (.slice A n c)).setCell ⟨g, 2, none⟩ (.bool dm)) g [.int .u64 K.gen, .slice A n c, .bool dm] ∧ RetParse w K (.returned (.agg #[.int .u64 K.gen, .slice A n c, .bool dm])) (((W.setCell ⟨g, 0, none⟩ (.int .u64 K.gen)).setCell ⟨g, 1, none⟩ (.slice A n c)).setCell ⟨g, 2, none⟩ (.bool dm)) := by
  have hG := grown3 W g (.int .u64 K.gen) (.slice A n c) (.bool dm)
  refine ⟨set3 h _ _ _, K.gen, A, n, c, xs, M, dm, rfl, fun _ => ⟨rfl, hd, hM⟩, fun k => ?_, hMn, hxn, ?_, ?_, hB.grown hG hB.size (fun k hk => by cases hk; omega)⟩
  · rw [hK] at k; cases k
  · refine (hO.grown hG (fun k hk e => ?_)).more (by omega)
    have := (hO.lt k hk).1
    cases e
    omega
  · refine (hS.keep hG.size (fun k hk _ hk2 => hG.block k hk2 (by intro e; cases e; omega))).more (by omega) (Nat.le_trans ht2 hG.size)
set_option maxRecDepth 100000 in
set_option maxHeartbeats 3000000 in
theorem parse_any (A : Option Addr) (n c : Nat) (l : List Int) (w : World) (hR : Rd w w.heap.size A n l) (hY : Byt l) (hn : n ≤ 4194304) (hnc : n ≤ c) (hcm : c ≤ maxLen) :
    Calls Try.prog 49 #[.slice A n c] w (RetParse w (lookL l)) := by
  have HLl := Lib.hid hR.len
  have HKL := Lib.hid (show lookL l = lookR (decide ((scanL l).2 = l.length)) (scanL l).1 from rfl)
  have hB0 : Below w.heap.size w (w.alloc (.cells #[.int .u64 0, .slice none 0 0, .bool false] 95)) := (Below.refl _ _).alloc (Nat.le_refl _) _
  have hZ0 : Blk 95 (w.alloc (.cells #[.int .u64 0, .slice none 0 0, .bool false] 95)) w.heap.size contZ := (MapKept.heap_alloc w _).1
  have hs0 : (w.alloc (.cells #[.int .u64 0, .slice none 0 0, .bool false] 95)).heap.size = w.heap.size + 1 := by simp
  have hR0 := hR.on hB0 hB0.size
  clear hR
  go_enter Try.func49, Try.ntmps49
  go_upto_region 1 with (fail)
  generalize w.alloc (.cells #[.int .u64 0, .slice none 0 0, .bool false] 95) = w0 at *
  have C1 := Lib.hid (frame.scan_any A n c l w0 hR0 hY (by omega) hnc hcm)
  clear hR0
  go_wp2_with fail
  refine C1.out.mono ?_
  clear C1
  rintro e w1 ⟨A1, n1, c1, xs, L, q, rfl, hxn, hLn, hS, hO, hOs, hB1⟩
  have hSL := scanL_eq hY hS
  rw [hSL] at HKL
  have hgood := hS.1.good hY (by omega) (by omega)
  have hn1 : n1 ≤ 4194304 := by have := hgood.1; have := hgood.2.1; have := HLl.out; omega
  have hq : q ≤ n := by have := hgood.2.1; have := HLl.out; omega
  have hSs := owns_ssf hOs
  obtain ⟨A1', c1', e1, hc1, hc1m, hV⟩ := hO.slice
  rw [hxn] at e1 hc1 hV
  simp only [Value.slice.injEq] at e1
  obtain ⟨rfl, -, rfl⟩ := e1
  have hBw1 := hB0.trans (hB1.mono hB0.size)
  have hZ1 : Blk 95 w1 w.heap.size contZ := Blk.below hZ0 hB1 (by omega)
  have HS := Lib.hid hSs
  have HB1 := Lib.hid hBw1
  have HG := Lib.hid hgood
  have HOx := Lib.hid hO
  have HZ := Lib.hid hZ1
  clear hSL hS hO hOs hB1 hZ0 hB0 hgood hSs hBw1
  have z0 := hZ1.cell 0
  have z1 := hZ1.cell 1
  have z2 := hZ1.cell 2
  have zf := fun i => hZ1.frozen i
  unfold contZ at z0 z1 z2
  simp only [List.getElem?_cons_zero, List.getElem?_cons_succ] at z0 z1 z2
  clear hZ1
  rcases L with _ | ⟨r, L⟩
  · obtain rfl : n1 = 0 := by simpa using hLn.symm
    have hK : (lookL l).whole = false := by rw [HKL.out, lookR_nil]
    go_wp2_with fail
    obtain ⟨s2, hfin⟩ := parse_not (w := w) (K := lookL l) HZ.out HB1.out (Nat.le_refl _) hK
    generalize ((World.setCell w1 ⟨w.heap.size, 0, none⟩ (.int .u64 0)).setCell ⟨w.heap.size, 1, none⟩ (.slice none 0 0)).setCell ⟨w.heap.size, 2, none⟩ (.bool false) = wf at *
    have r0 := s2.cell 0
    have r1 := s2.cell 1
    have r2 := s2.cell 2
    unfold contZ at r0 r1 r2
    simp only [List.getElem?_cons_zero, List.getElem?_cons_succ] at r0 r1 r2
    (try simp only [Exit.inBlock, Exit.then])
    show bodyPost Try.prog Try.f49 (RetParse w (lookL l)) Exit.ret _ wf
    refine bodyPost_ret (by simp [results, Try.results49, go_sem, r0, r1, r2]; try rfl) rfl ?_
    exact hfin
  obtain rfl : n1 = L.length + 1 := by simpa using hLn.symm
  obtain ⟨b, o, u, rfl, hu, hcell⟩ := hV.at_ (j := 0) (by omega)
  obtain ⟨Ar, cr, rfl, hr1, hr2, hF⟩ := HS.out 0 u r hu rfl
  rw [Nat.add_zero] at hcell
  have hgr := HG.out.2.2 r (List.mem_cons_self ..)
  obtain ⟨m, hm⟩ : ∃ m, r.length = m := ⟨_, rfl⟩
  rw [hm] at hcell hr1 hF
  have hm2 : m ≤ 1048576 := by rw [← hm]; exact hgr.2
  have i0 : (0 : Int) ≤ 0 ∧ (0 : Int) < (L.length + 1 : Nat) := by omega
  have i2 : (1 : Int) ≤ (L.length : Int) + 1 := by omega
  have i1 : ((L.length : Int) + 1 == 0) = false := by simp; omega
  have hbl : b < w1.heap.size := by
    obtain ⟨b', o', e', hb', _⟩ := hV.2 (by omega)
    cases e'
    exact hb'
  have CG := Lib.hid (fun (wq : World) (h : wq.cell? ⟨b, o, none⟩ = some (.slice Ar m cr) ∧ Below w1.heap.size w1 wq) => generation_any Ar m cr r wq (hF.rd.on h.2 h.2.size) hgr.1 (by omega) hr1)
  have HSB := Lib.hid (fun (wq wz : World) (h : wq.cell? ⟨b, o, none⟩ = some (.slice Ar m cr) ∧ Below w1.heap.size w1 wq) (hB : Below wq.heap.size wq wz) => (show wz.cell? ⟨b, o, none⟩ = some (.slice Ar m cr) ∧ Below w1.heap.size w1 wz from
    ⟨((hB.cell (p := ⟨b, o, none⟩) (Nat.lt_of_lt_of_le hbl h.2.size)).trans h.1), h.2.trans (hB.mono h.2.size)⟩))
  have hsd : SsF w1 w0.heap.size w1.heap.size (xs.drop 1) L := HS.out.drop 1
  clear hm hF hgr hu
  by_cases hone : c1 = 1
  · obtain rfl : L = [] := List.eq_nil_of_length_eq_zero (by omega)
    subst hone
    have hxd : xs.drop 1 = [] := List.drop_eq_nil_of_le (by rw [hxn]; exact Nat.le_refl _)
    rw [hxd] at hsd
    simp only [List.length_nil, Nat.zero_add] at i0 i1 i2 hV HOx
    have CD := Lib.hid (fun (wq : World) (h : wq.cell? ⟨b, o, none⟩ = some (.slice Ar m cr) ∧ Below w1.heap.size w1 wq) => leading_any w0.heap.size w1.heap.size (some ⟨b, o, none⟩) 0 0 [] [] wq (RdV.nil _ _ _) rfl (hsd.below h.2) h.2.size (by omega))
    have HK := Lib.hid (show (lookL l).whole = false by
      rw [HKL.out, lookR_cons]
      by_cases hg : genOf r = 0
      · rw [if_pos hg]
      · rw [if_neg hg]; rfl)
    clear hsd hV HKL
    go_upto_region 4 with (fail)
    refine wp_region_held_drew (S := fun wq => wq.cell? ⟨b, o, none⟩ = some (.slice Ar m cr) ∧ Below w1.heap.size w1 wq) (by kernel_rfl) ?s_1 (fun hHeld => ?_)
    case s_1 => exact ⟨hcell, (Below.refl _ _).drew⟩
    refine wpAnyH_take (i := 0) (oi := { dst := some 19, op := Go.Op.move (Go.Operand.tmp 3), type := 36, pos := "wal.go:160", after := #[], guard := none }) (v := ?v_0_1) rfl (by kernel_rfl) (by kernel_rfl) (by kernel_rfl) (fun _ _ _ h => h) (Or.inl ⟨by rfl, ?y_0_1⟩) (by assumption) ?_
    case y_0_1 => (intro wq hSw; (try dsimp only at hSw); go_simp; first | done | with_reducible rfl)
    try simp only [Act.put, List.setIfInBounds_toArray, List.set_cons_zero, List.set_cons_succ]
    refine wpAnyH_take (i := 1) (oi := { dst := some 20, op := Go.Op.indexAddr 36 (Go.Operand.tmp 19) (Go.Operand.const (Go.Value.int Go.IntKind.i64 0)), type := 0, pos := "wal.go:160", after := #[{ on := 0, ground := Go.Ground.data }], guard := none }) (v := ?v_1_1) rfl (by kernel_rfl) (by kernel_rfl) (by kernel_rfl) (fun _ _ _ h => h) (Or.inl ⟨by rfl, ?y_1_1⟩) (by assumption) ?_
    case y_1_1 => (intro wq hSw; (try dsimp only at hSw); go_simp; first | done | with_reducible rfl)
    try simp only [Act.put, List.setIfInBounds_toArray, List.set_cons_zero, List.set_cons_succ]
    refine wpAnyH_take (i := 2) (oi := { dst := some 21, op := Go.Op.load 35 (Go.Operand.tmp 20), type := 35, pos := "wal.go:160", after := #[{ on := 1, ground := Go.Ground.data }], guard := none }) (v := ?v_2_1) rfl (by kernel_rfl) (by kernel_rfl) (by kernel_rfl) (fun _ _ _ h => h) (Or.inl ⟨by rfl, ?y_2_1⟩) (by assumption) ?_
    case y_2_1 => (intro wq hSw; (try dsimp only at hSw); go_simp; first | done | with_reducible rfl)
    try simp only [Act.put, List.setIfInBounds_toArray, List.set_cons_zero, List.set_cons_succ]
    refine wpAnyH_take (i := 4) (oi := { dst := some 23, op := Go.Op.move (Go.Operand.tmp 3), type := 36, pos := "wal.go:160", after := #[], guard := none }) (v := ?v_4_1) rfl (by kernel_rfl) (by kernel_rfl) (by kernel_rfl) (fun _ _ _ h => h) (Or.inl ⟨by rfl, ?y_4_1⟩) (by assumption) ?_
    case y_4_1 => (intro wq hSw; (try dsimp only at hSw); go_simp; first | done | with_reducible rfl)
    try simp only [Act.put, List.setIfInBounds_toArray, List.set_cons_zero, List.set_cons_succ]
    refine wpAnyH_take (i := 5) (oi := { dst := some 24, op := Go.Op.slice 36 (Go.Operand.tmp 23) (some (Go.Operand.const (Go.Value.int Go.IntKind.i64 1))) none none, type := 36, pos := "wal.go:160", after := #[{ on := 4, ground := Go.Ground.data }], guard := none }) (v := ?v_5_1) rfl (by kernel_rfl) (by kernel_rfl) (by kernel_rfl) (fun _ _ _ h => h) (Or.inl ⟨by rfl, ?y_5_1⟩) (by assumption) ?_
    case y_5_1 => (intro wq hSw; (try dsimp only at hSw); go_simp; first | done | with_reducible rfl)
    try simp only [Act.put, List.setIfInBounds_toArray, List.set_cons_zero, List.set_cons_succ]
    refine wpAnyH_ready (rs := [3]) (by kernel_rfl) (by simp) ?_
    refine AllReadyH.cons (o := { dst := some 22, op := Go.Op.call { callee := Go.Callee.value (Go.Operand.func 72), args := #[Go.Operand.tmp 21], argTypes := #[35] }, type := 58, pos := "wal.go:160", after := #[{ on := 2, ground := Go.Ground.data }], guard := none }) rfl (fun KQ hKQ => ?_) AllReadyH.nil
    go_simp
    refine (CG.out _ hHeld).mono ?_
    rintro e w9 ⟨rfl, rfl⟩
    go_wp2_with fail
    refine hKQ.out _ _ ?s_3 (fun hHeld3 => ?_)
    case s_3 => exact hHeld
    clear hKQ KQ
    try simp only [Act.put, List.setIfInBounds_toArray, List.set_cons_zero, List.set_cons_succ]
    refine wpAnyH_ready (rs := [6]) (by kernel_rfl) (by simp) ?_
    refine AllReadyH.cons (o := { dst := some 25, op := Go.Op.call { callee := Go.Callee.value (Go.Operand.func 73), args := #[Go.Operand.tmp 24], argTypes := #[36] }, type := 36, pos := "wal.go:160", after := #[{ on := 5, ground := Go.Ground.data }, { on := 3, ground := Go.Ground.chain }], guard := none }) rfl (fun KQ hKQ => ?_) AllReadyH.nil
    go_simp
    refine (CD.out _ hHeld3).mono ?_
    rintro e w5 ⟨A5, k5, c5, ys, rfl, hyk, hlk, hO5, hS5, hB5⟩
    have hs5 := HSB.out _ w5 hHeld3 hB5
    go_wp2_with fail
    refine hKQ.out _ _ ?s_6 (fun hHeld6 => ?_)
    case s_6 => exact hs5
    clear hKQ KQ
    try simp only [Act.put, List.setIfInBounds_toArray, List.set_cons_zero, List.set_cons_succ]
    refine wpAnyH_take (i := 7) (oi := { dst := some 5, op := Go.Op.assign (Go.Operand.tmp 22), type := 58, pos := "wal.go:160", after := #[{ on := 3, ground := Go.Ground.data }, { on := 6, ground := Go.Ground.chain }, { on := 0, ground := Go.Ground.phase }, { on := 1, ground := Go.Ground.phase }, { on := 2, ground := Go.Ground.phase }, { on := 3, ground := Go.Ground.phase }, { on := 4, ground := Go.Ground.textOnly Go.Departure.lateStores }, { on := 5, ground := Go.Ground.textOnly Go.Departure.lateStoresUnsure }, { on := 6, ground := Go.Ground.textOnly Go.Departure.lateStoresUnsure }], guard := none }) (v := ?v_7_1) rfl (by kernel_rfl) (by kernel_rfl) (by kernel_rfl) (fun _ _ _ h => h) (Or.inl ⟨by rfl, ?y_7_1⟩) (by assumption) ?_
    case y_7_1 => (intro wq hSw; (try dsimp only at hSw); go_simp; first | done | with_reducible rfl)
    try simp only [Act.put, List.setIfInBounds_toArray, List.set_cons_zero, List.set_cons_succ]
    refine wpAnyH_take (i := 8) (oi := { dst := some 6, op := Go.Op.assign (Go.Operand.tmp 25), type := 36, pos := "wal.go:160", after := #[{ on := 6, ground := Go.Ground.data }, { on := 7, ground := Go.Ground.chain }, { on := 0, ground := Go.Ground.phase }, { on := 1, ground := Go.Ground.phase }, { on := 2, ground := Go.Ground.phase }, { on := 3, ground := Go.Ground.phase }, { on := 4, ground := Go.Ground.phase }, { on := 5, ground := Go.Ground.phase }, { on := 6, ground := Go.Ground.phase }, { on := 7, ground := Go.Ground.phase }], guard := none }) (v := ?v_8_1) rfl (by kernel_rfl) (by kernel_rfl) (by kernel_rfl) (fun _ _ _ h => h) (Or.inl ⟨by rfl, ?y_8_1⟩) (by assumption) ?_
    case y_8_1 => (intro wq hSw; (try dsimp only at hSw); go_simp; first | done | with_reducible rfl)
    try simp only [Act.put, List.setIfInBounds_toArray, List.set_cons_zero, List.set_cons_succ]
    refine wpAnyH_done (by kernel_rfl) ?_ _
    have HZ5 := Lib.hid (Blk.below HZ.out hs5.2 (by have := HZ.out.lt; exact this))
    have HB5 := Lib.hid (HB1.out.trans (hs5.2.mono HB1.out.size))
    have z0 : w5.cell? _ = _ := HZ5.out.cell 0
    have z1 : w5.cell? _ = _ := HZ5.out.cell 1
    have z2 : w5.cell? _ = _ := HZ5.out.cell 2
    have zf := fun i => HZ5.out.frozen i
    unfold contZ at z0 z1 z2
    simp only [List.getElem?_cons_zero, List.getElem?_cons_succ] at z0 z1 z2
    obtain rfl : k5 = 0 := by rw [← hlk]; rfl
    have hK := HK.out
    clear hHeld hHeld3 hHeld6 hs5 hO5 hS5 hB5 hcell CG CD HSB hlk hyk
    by_cases hg : genOf r = 0
    · rw [hg]
      go_wp2_with fail
      obtain ⟨s2, hfin⟩ := parse_not (w := w) (K := lookL l) HZ5.out HB5.out (Nat.le_refl _) hK
      generalize ((World.setCell w5 ⟨w.heap.size, 0, none⟩ (.int .u64 0)).setCell ⟨w.heap.size, 1, none⟩ (.slice none 0 0)).setCell ⟨w.heap.size, 2, none⟩ (.bool false) = wf at *
      have r0 := s2.cell 0
      have r1 := s2.cell 1
      have r2 := s2.cell 2
      unfold contZ at r0 r1 r2
      simp only [List.getElem?_cons_zero, List.getElem?_cons_succ] at r0 r1 r2
      (try simp only [Exit.inBlock, Exit.then])
      show bodyPost Try.prog Try.f49 (RetParse w (lookL l)) Exit.ret _ wf
      refine bodyPost_ret (by simp [results, Try.results49, go_sem, r0, r1, r2]; try rfl) rfl ?_
      exact hfin
    · have hgg : (genOf r == 0) = false := by simpa using hg
      generalize genOf r = G at *
      go_wp2_with fail
      obtain ⟨s2, hfin⟩ := parse_not (w := w) (K := lookL l) HZ5.out HB5.out (Nat.le_refl _) hK
      generalize ((World.setCell w5 ⟨w.heap.size, 0, none⟩ (.int .u64 0)).setCell ⟨w.heap.size, 1, none⟩ (.slice none 0 0)).setCell ⟨w.heap.size, 2, none⟩ (.bool false) = wf at *
      have r0 := s2.cell 0
      have r1 := s2.cell 1
      have r2 := s2.cell 2
      unfold contZ at r0 r1 r2
      simp only [List.getElem?_cons_zero, List.getElem?_cons_succ] at r0 r1 r2
      (try simp only [Exit.inBlock, Exit.then])
      show bodyPost Try.prog Try.f49 (RetParse w (lookL l)) Exit.ret _ wf
      refine bodyPost_ret (by simp [results, Try.results49, go_sem, r0, r1, r2]; try rfl) rfl ?_
      exact hfin
  have CD := Lib.hid (fun (wq : World) (h : wq.cell? ⟨b, o, none⟩ = some (.slice Ar m cr) ∧ Below w1.heap.size w1 wq) => leading_any w0.heap.size w1.heap.size (some ⟨b, o + 1, none⟩) L.length (c1 - 1) (xs.drop 1) L wq (by
    obtain ⟨A', e, hV'⟩ := RdV.drop hV (p := 1) (m := c1) (by omega) hc1
    unfold Go.sliced at e
    simp only [Value.slice.injEq] at e
    rw [if_neg (by omega)] at e
    simp [Addr.add] at e
    rw [← e, Nat.add_sub_cancel] at hV'
    exact hV'.on h.2 h.2.size) rfl (hsd.below h.2) h.2.size (by omega))
  have hst : w1.cell? ⟨b, o, none⟩ = some (.slice Ar m cr) ∧ Below w1.heap.size w1 w1 := ⟨hcell, Below.refl _ _⟩
  clear hsd
  have HV := Lib.hid hV
  clear hV
  go_upto_region 4 with (fail)
  refine wp_region_held_drew (S := fun wq => wq.cell? ⟨b, o, none⟩ = some (.slice Ar m cr) ∧ Below w1.heap.size w1 wq) (by kernel_rfl) ?s_0 (fun hHeld => ?_)
  case s_0 => exact ⟨hcell, (Below.refl _ _).drew⟩
  refine wpAnyH_take (i := 0) (oi := { dst := some 19, op := Go.Op.move (Go.Operand.tmp 3), type := 36, pos := "wal.go:160", after := #[], guard := none }) (v := ?v_0_2) rfl (by kernel_rfl) (by kernel_rfl) (by kernel_rfl) (fun _ _ _ h => h) (Or.inl ⟨by rfl, ?y_0_2⟩) (by assumption) ?_
  case y_0_2 => (intro wq hSw; (try dsimp only at hSw); go_simp; first | done | with_reducible rfl)
  try simp only [Act.put, List.setIfInBounds_toArray, List.set_cons_zero, List.set_cons_succ]
  refine wpAnyH_take (i := 1) (oi := { dst := some 20, op := Go.Op.indexAddr 36 (Go.Operand.tmp 19) (Go.Operand.const (Go.Value.int Go.IntKind.i64 0)), type := 0, pos := "wal.go:160", after := #[{ on := 0, ground := Go.Ground.data }], guard := none }) (v := ?v_1_2) rfl (by kernel_rfl) (by kernel_rfl) (by kernel_rfl) (fun _ _ _ h => h) (Or.inl ⟨by rfl, ?y_1_2⟩) (by assumption) ?_
  case y_1_2 => (intro wq hSw; (try dsimp only at hSw); go_simp; first | done | with_reducible rfl)
  try simp only [Act.put, List.setIfInBounds_toArray, List.set_cons_zero, List.set_cons_succ]
  refine wpAnyH_take (i := 2) (oi := { dst := some 21, op := Go.Op.load 35 (Go.Operand.tmp 20), type := 35, pos := "wal.go:160", after := #[{ on := 1, ground := Go.Ground.data }], guard := none }) (v := ?v_2_2) rfl (by kernel_rfl) (by kernel_rfl) (by kernel_rfl) (fun _ _ _ h => h) (Or.inl ⟨by rfl, ?y_2_2⟩) (by assumption) ?_
  case y_2_2 => (intro wq hSw; (try dsimp only at hSw); go_simp; first | done | with_reducible rfl)
  try simp only [Act.put, List.setIfInBounds_toArray, List.set_cons_zero, List.set_cons_succ]
  refine wpAnyH_take (i := 4) (oi := { dst := some 23, op := Go.Op.move (Go.Operand.tmp 3), type := 36, pos := "wal.go:160", after := #[], guard := none }) (v := ?v_4_2) rfl (by kernel_rfl) (by kernel_rfl) (by kernel_rfl) (fun _ _ _ h => h) (Or.inl ⟨by rfl, ?y_4_2⟩) (by assumption) ?_
  case y_4_2 => (intro wq hSw; (try dsimp only at hSw); go_simp; first | done | with_reducible rfl)
  try simp only [Act.put, List.setIfInBounds_toArray, List.set_cons_zero, List.set_cons_succ]
  refine wpAnyH_take (i := 5) (oi := { dst := some 24, op := Go.Op.slice 36 (Go.Operand.tmp 23) (some (Go.Operand.const (Go.Value.int Go.IntKind.i64 1))) none none, type := 36, pos := "wal.go:160", after := #[{ on := 4, ground := Go.Ground.data }], guard := none }) (v := ?v_5_2) rfl (by kernel_rfl) (by kernel_rfl) (by kernel_rfl) (fun _ _ _ h => h) (Or.inl ⟨by rfl, ?y_5_2⟩) (by assumption) ?_
  case y_5_2 => (intro wq hSw; (try dsimp only at hSw); go_simp; first | done | with_reducible rfl)
  try simp only [Act.put, List.setIfInBounds_toArray, List.set_cons_zero, List.set_cons_succ]
  refine wpAnyH_ready (rs := [3]) (by kernel_rfl) (by simp) ?_
  refine AllReadyH.cons (o := { dst := some 22, op := Go.Op.call { callee := Go.Callee.value (Go.Operand.func 72), args := #[Go.Operand.tmp 21], argTypes := #[35] }, type := 58, pos := "wal.go:160", after := #[{ on := 2, ground := Go.Ground.data }], guard := none }) rfl (fun KQ hKQ => ?_) AllReadyH.nil
  go_simp
  refine (CG.out _ hHeld).mono ?_
  rintro e w9 ⟨rfl, rfl⟩
  go_wp2_with fail
  refine hKQ.out _ _ ?s_3 (fun hHeld3 => ?_)
  case s_3 => exact hHeld
  clear hKQ KQ
  try simp only [Act.put, List.setIfInBounds_toArray, List.set_cons_zero, List.set_cons_succ]
  refine wpAnyH_ready (rs := [6]) (by kernel_rfl) (by simp) ?_
  refine AllReadyH.cons (o := { dst := some 25, op := Go.Op.call { callee := Go.Callee.value (Go.Operand.func 73), args := #[Go.Operand.tmp 24], argTypes := #[36] }, type := 36, pos := "wal.go:160", after := #[{ on := 5, ground := Go.Ground.data }, { on := 3, ground := Go.Ground.chain }], guard := none }) rfl (fun KQ hKQ => ?_) AllReadyH.nil
  go_simp
  refine (CD.out _ hHeld3).mono ?_
  rintro e w5 ⟨A5, k5, c5, ys, rfl, hyk, hlk, hO5, hS5, hB5⟩
  have hs5 := HSB.out _ w5 hHeld3 hB5
  go_wp2_with fail
  refine hKQ.out _ _ ?s_6 (fun hHeld6 => ?_)
  case s_6 => exact hs5
  clear hKQ KQ
  try simp only [Act.put, List.setIfInBounds_toArray, List.set_cons_zero, List.set_cons_succ]
  refine wpAnyH_take (i := 7) (oi := { dst := some 5, op := Go.Op.assign (Go.Operand.tmp 22), type := 58, pos := "wal.go:160", after := #[{ on := 3, ground := Go.Ground.data }, { on := 6, ground := Go.Ground.chain }, { on := 0, ground := Go.Ground.phase }, { on := 1, ground := Go.Ground.phase }, { on := 2, ground := Go.Ground.phase }, { on := 3, ground := Go.Ground.phase }, { on := 4, ground := Go.Ground.textOnly Go.Departure.lateStores }, { on := 5, ground := Go.Ground.textOnly Go.Departure.lateStoresUnsure }, { on := 6, ground := Go.Ground.textOnly Go.Departure.lateStoresUnsure }], guard := none }) (v := ?v_7_2) rfl (by kernel_rfl) (by kernel_rfl) (by kernel_rfl) (fun _ _ _ h => h) (Or.inl ⟨by rfl, ?y_7_2⟩) (by assumption) ?_
  case y_7_2 => (intro wq hSw; (try dsimp only at hSw); go_simp; first | done | with_reducible rfl)
  try simp only [Act.put, List.setIfInBounds_toArray, List.set_cons_zero, List.set_cons_succ]
  refine wpAnyH_take (i := 8) (oi := { dst := some 6, op := Go.Op.assign (Go.Operand.tmp 25), type := 36, pos := "wal.go:160", after := #[{ on := 6, ground := Go.Ground.data }, { on := 7, ground := Go.Ground.chain }, { on := 0, ground := Go.Ground.phase }, { on := 1, ground := Go.Ground.phase }, { on := 2, ground := Go.Ground.phase }, { on := 3, ground := Go.Ground.phase }, { on := 4, ground := Go.Ground.phase }, { on := 5, ground := Go.Ground.phase }, { on := 6, ground := Go.Ground.phase }, { on := 7, ground := Go.Ground.phase }], guard := none }) (v := ?v_8_2) rfl (by kernel_rfl) (by kernel_rfl) (by kernel_rfl) (fun _ _ _ h => h) (Or.inl ⟨by rfl, ?y_8_2⟩) (by assumption) ?_
  case y_8_2 => (intro wq hSw; (try dsimp only at hSw); go_simp; first | done | with_reducible rfl)
  try simp only [Act.put, List.setIfInBounds_toArray, List.set_cons_zero, List.set_cons_succ]
  refine wpAnyH_done (by kernel_rfl) ?_ _
  have hk5 : k5 ≤ L.length := by rw [← hlk]; exact lead_len L
  have HZ5 := Lib.hid (Blk.below HZ.out hs5.2 (by have := HZ.out.lt; exact this))
  have HB5 := Lib.hid (HB1.out.trans (hs5.2.mono HB1.out.size))
  have z0 : w5.cell? _ = _ := HZ5.out.cell 0
  have z1 : w5.cell? _ = _ := HZ5.out.cell 1
  have z2 : w5.cell? _ = _ := HZ5.out.cell 2
  have zf := fun i => HZ5.out.frozen i
  unfold contZ at z0 z1 z2
  simp only [List.getElem?_cons_zero, List.getElem?_cons_succ] at z0 z1 z2
  have HQ := Lib.hid (And.intro hs5 (And.intro hO5 hS5))
  have HLK := Lib.hid hlk
  have HYK := Lib.hid hyk
  have HH5 := Lib.hid hB5.size
  clear hHeld hHeld3 hHeld6 hs5 hO5 hS5 hB5 hcell CG CD HSB hst hlk hyk
  by_cases hg : genOf r = 0
  · have hK : (lookL l).whole = false := by rw [HKL.out, lookR_cons, if_pos hg]
    rw [hg]
    go_wp2_with fail
    obtain ⟨s2, hfin⟩ := parse_not (w := w) (K := lookL l) HZ5.out HB5.out (Nat.le_refl _) hK
    generalize ((World.setCell w5 ⟨w.heap.size, 0, none⟩ (.int .u64 0)).setCell ⟨w.heap.size, 1, none⟩ (.slice none 0 0)).setCell ⟨w.heap.size, 2, none⟩ (.bool false) = wf at *
    have r0 := s2.cell 0
    have r1 := s2.cell 1
    have r2 := s2.cell 2
    unfold contZ at r0 r1 r2
    simp only [List.getElem?_cons_zero, List.getElem?_cons_succ] at r0 r1 r2
    (try simp only [Exit.inBlock, Exit.then])
    show bodyPost Try.prog Try.f49 (RetParse w (lookL l)) Exit.ret _ wf
    refine bodyPost_ret (by simp [results, Try.results49, go_sem, r0, r1, r2]; try rfl) rfl ?_
    exact hfin
  have hgg : (genOf r == 0) = false := by simpa using hg
  have HKG := Lib.hid (show lookL l = ⟨(lookT (decide ((q : Int) = l.length)) false L).1, (lookT (decide ((q : Int) = l.length)) false L).2.1, genOf r, (lookT (decide ((q : Int) = l.length)) false L).2.2⟩ by rw [HKL.out, lookR_cons, if_neg hg])
  generalize genOf r = G at *
  by_cases hk : k5 = L.length
  · have hK : (lookL l).whole = false := by
      rw [HKG.out]
      exact lookT_not _ L (by rw [HLK.out, List.getElem?_eq_none (by omega)]; simp)
    have hkk : ((1 : Int) + k5 == (L.length : Int) + 1) = true := by simp; omega
    clear HKL HKG
    go_wp2_with fail
    obtain ⟨s2, hfin⟩ := parse_not (w := w) (K := lookL l) HZ5.out HB5.out (Nat.le_refl _) hK
    generalize ((World.setCell w5 ⟨w.heap.size, 0, none⟩ (.int .u64 0)).setCell ⟨w.heap.size, 1, none⟩ (.slice none 0 0)).setCell ⟨w.heap.size, 2, none⟩ (.bool false) = wf at *
    have r0 := s2.cell 0
    have r1 := s2.cell 1
    have r2 := s2.cell 2
    unfold contZ at r0 r1 r2
    simp only [List.getElem?_cons_zero, List.getElem?_cons_succ] at r0 r1 r2
    (try simp only [Exit.inBlock, Exit.then])
    show bodyPost Try.prog Try.f49 (RetParse w (lookL l)) Exit.ret _ wf
    refine bodyPost_ret (by simp [results, Try.results49, go_sem, r0, r1, r2]; try rfl) rfl ?_
    exact hfin
  have hkk : ((1 : Int) + k5 == (L.length : Int) + 1) = false := by simp; omega
  have hlt : 1 + k5 < L.length + 1 := by omega
  obtain ⟨b', o', u, e, hu, hcell⟩ := (HV.out.on HQ.out.1.2 HQ.out.1.2.size).at_ (j := 1 + k5) hlt
  cases e
  obtain ⟨s, hs⟩ : ∃ s, L[k5]? = some s := ⟨_, List.getElem?_eq_getElem (by omega)⟩
  obtain ⟨As, cs, rfl, hs1, hs2, hFs⟩ := HS.out (1 + k5) u s hu (by rw [Nat.add_comm, List.getElem?_cons_succ]; exact hs)
  have hsl := (HG.out.2.2 s (List.mem_cons_of_mem _ (List.mem_of_getElem? hs))).2
  have C := Lib.hid (isEnd_any As s.length cs s w5 (hFs.rd.on HQ.out.1.2 HQ.out.1.2.size) (by omega))
  have i3 : (0 : Int) ≤ 1 + k5 ∧ (1 : Int) + k5 < (L.length : Int) + 1 := by omega
  have HSK := Lib.hid hs
  clear hs hu hFs
  by_cases he : s = [69]
  case neg =>
    have hK : (lookL l).whole = false := by
      rw [HKG.out]
      exact lookT_not _ L (by rw [HLK.out, HSK.out]; intro e; exact he (by simpa using e))
    have hdd : decide (s = [69]) = false := decide_eq_false he
    rw [hdd] at C
    clear HKL HKG
    go_wp2_with fail
    refine C.out.mono ?_
    clear C
    rintro e w6 ⟨rfl, rfl⟩
    go_wp2_with fail
    obtain ⟨s2, hfin⟩ := parse_not (w := w) (K := lookL l) HZ5.out HB5.out (Nat.le_refl _) hK
    generalize ((World.setCell w5 ⟨w.heap.size, 0, none⟩ (.int .u64 0)).setCell ⟨w.heap.size, 1, none⟩ (.slice none 0 0)).setCell ⟨w.heap.size, 2, none⟩ (.bool false) = wf at *
    have r0 := s2.cell 0
    have r1 := s2.cell 1
    have r2 := s2.cell 2
    unfold contZ at r0 r1 r2
    simp only [List.getElem?_cons_zero, List.getElem?_cons_succ] at r0 r1 r2
    (try simp only [Exit.inBlock, Exit.then])
    show bodyPost Try.prog Try.f49 (RetParse w (lookL l)) Exit.ret _ wf
    refine bodyPost_ret (by simp [results, Try.results49, go_sem, r0, r1, r2]; try rfl) rfl ?_
    exact hfin
  subst he
  rw [show decide (([69] : List Int) = [69]) = true from rfl] at C
  have hW := lookT_whole (decide ((q : Int) = l.length)) L (by rw [HLK.out]; exact HSK.out)
  rw [HLK.out] at hW
  have HW := Lib.hid (show (lookL l).whole = true ∧ (lookL l).spoilt = (decide ((lead (L.drop (k5 + 1))).length < (L.drop (k5 + 1)).length) || !decide ((q : Int) = l.length)) ∧ (lookL l).recs = lead L ++ lead (L.drop (k5 + 1)) ∧ (lookL l).gen = G by
    rw [HKG.out, hW]; exact ⟨rfl, rfl, rfl, rfl⟩)
  have hsd : SsF w1 w0.heap.size w1.heap.size (xs.drop (k5 + 2)) (L.drop (k5 + 1)) := HS.out.drop (k5 + 2)
  obtain ⟨A6, e6, hV6⟩ := RdV.drop HV.out (p := k5 + 2) (m := c1) (by omega) hc1
  obtain ⟨n6, hn6⟩ : ∃ n6, L.length + 1 - (k5 + 2) = n6 := ⟨_, rfl⟩
  have hdl : (L.drop (k5 + 1)).length = n6 := by rw [List.length_drop]; omega
  rw [hn6] at e6 hV6
  have CD := Lib.hid (leading_any w0.heap.size w1.heap.size A6 n6 (c1 - (k5 + 2)) (xs.drop (k5 + 2)) (L.drop (k5 + 1)) w5 (hV6.on HQ.out.1.2 HQ.out.1.2.size) hdl (hsd.below HQ.out.1.2) HQ.out.1.2.size (by omega))
  obtain ⟨iB, hiB, _, hzB, _⟩ := info_parts law0.infoB
  have hp2 : k5 + 2 ≤ L.length + 1 := by omega
  have hw2 : ((1 : Int) + k5 + 1) = ((k5 + 2 : Nat) : Int) := by omega
  clear HKL HKG hW hsd hV6
  go_wp2_with fail
  refine C.out.mono ?_
  clear C
  rintro e w6 ⟨rfl, rfl⟩
  go_upto_region 8 with (fail)
  go_wp2_with (with_reducible refine wpList_slice_raw rfl (.tmp 46) (.tmp 48) 36 rfl 35 Try.underlying36 iB hiB hzB (some ⟨b, o, none⟩) (L.length + 1) c1 ?hs .i64 ?L0 (k5 + 2) ?hlo ?hL hp2 hc1 _ e6 ?_)
  case hs => rfl
  case hlo => rfl
  case hL => omega
  go_wp2_with fail
  refine CD.out.mono ?_
  clear CD
  rintro e w6 ⟨A7, m7, c7, zs, rfl, hzm, hlm, hO7, hS7, hB7⟩
  have hm7 : m7 ≤ n6 := by rw [← hlm, ← hdl]; exact lead_len _
  have hO5 := HQ.out.2.1.below hB7
  obtain ⟨A7', c7', e7, _, _, hV7⟩ := hO7.slice
  rw [hzm] at e7 hV7
  simp only [Value.slice.injEq] at e7
  obtain ⟨rfl, -, rfl⟩ := e7
  have hone := ssf_one hS7 (by rw [hzm, hlm])
  have h24 : (k5 + m7) * 24 ≤ 140737488355328 := by omega
  have h63 : k5 + m7 ≤ maxLen := by unfold maxLen; omega
  have hbs : w1.drew.heap.size ≤ w6.heap.size := Nat.le_trans HH5.out hB7.size
  have hss : SsF w6 w0.heap.size w1.heap.size (ys ++ zs) (lead L ++ lead (L.drop (k5 + 1))) := SsF.append (HQ.out.2.2.below (hB7.mono HH5.out)) hS7 (by rw [HYK.out, HLK.out])
  have HSS := Lib.hid hss
  have HB7 := Lib.hid (HB5.out.trans (hB7.mono HB5.out.size))
  have HZ6 := Lib.hid (Blk.below HZ5.out hB7 HZ5.out.lt)
  have HLM := Lib.hid hlm
  have HZM := Lib.hid hzm
  clear hO7 hS7 hB7 hss HQ hlm hzm z0 z1 z2 zf HZ5
  go_wp2_with (at_builtin; with_reducible refine wpList_append_v rfl (.tmp 57) (.tmp 58) 36 rfl w1.drew.heap.size 35 (.slice none 0 0) 24 Try.underlying36 law0.infoB rfl A5 k5 c5 ys HYK.out rfl hO5 _ A7 m7 c7 zs rfl hV7 hone h24 h63 hbs ?_)
  intro A8 c8 w7 hO8 hB8 hG8
  have HS8 := Lib.hid (HSS.out.below hB8)
  have hgs : w.heap.size < w1.heap.size := HZ.out.lt
  have HZ7 := Lib.hid (Blk.below HZ6.out hB8 hgs)
  have HB8 := Lib.hid (HB7.out.trans (hB8.mono (Nat.le_of_lt hgs)))
  have z0 : w7.cell? _ = _ := HZ7.out.cell 0
  have z1 : w7.cell? _ = _ := HZ7.out.cell 1
  have z2 : w7.cell? _ = _ := HZ7.out.cell 2
  have zf := fun i => HZ7.out.frozen i
  unfold contZ at z0 z1 z2
  simp only [List.getElem?_cons_zero, List.getElem?_cons_succ] at z0 z1 z2
  have HO8 := Lib.hid hO8
  have hw1s : w1.heap.size ≤ w7.heap.size := Nat.le_trans hbs hB8.size
  have hw0 : w.heap.size < w0.heap.size := by omega
  clear hO8 hB8 hG8 hV7 hO5
  have hqn : (lookL l).spoilt = (decide (m7 < n6) || !decide ((q : Int) = n)) := by rw [HW.out.2.1, HLM.out, hdl, HLl.out]
  have hml : (lead L ++ lead (L.drop (k5 + 1))).length = k5 + m7 := by rw [List.length_append, HLK.out, HLM.out]
  have hzl : (ys ++ zs).length = k5 + m7 := by rw [List.length_append, HYK.out, HZM.out]
  have HQN := Lib.hid (And.intro hqn (And.intro hml hzl))
  have hge : G = (lookL l).gen := HW.out.2.2.2.symm
  rw [hge]
  clear hqn hml hzl hge
  by_cases hmo : m7 < n6
  · have hDM : true = (lookL l).spoilt := by rw [HQN.out.1]; simp [hmo]
    have k1 : decide ((k5 : Int) + 2 + m7 < (L.length : Int) + 1) = true := decide_eq_true (by omega)
    have k2 : (k5 : Int) + 2 + m7 < (L.length : Int) + 1 := by omega
    have HPY := Lib.hid (parse_yes (w := w) (K := lookL l) (dm := true) HZ7.out HB8.out rfl hgs hw1s w0.heap.size hw0 HW.out.1 hDM HW.out.2.2.1.symm HQN.out.2.1 HQN.out.2.2 HO8.out HS8.out)
    have HWg := Lib.hid hgs
    clear hDM hgs hw0 hw1s hone h24 h63 hbs
    go_wp2_with fail
    obtain ⟨s2, hfin⟩ := HPY.out
    generalize ((World.setCell w7 ⟨w.heap.size, 0, none⟩ (.int .u64 (lookL l).gen)).setCell ⟨w.heap.size, 1, none⟩ (.slice A8 (k5 + m7) c8)).setCell ⟨w.heap.size, 2, none⟩ (.bool true) = wf at *
    have r0 := s2.cell 0
    have r1 := s2.cell 1
    have r2 := s2.cell 2
    simp only [List.getElem?_cons_zero, List.getElem?_cons_succ] at r0 r1 r2
    (try simp only [Exit.inBlock, Exit.then])
    show bodyPost Try.prog Try.f49 (RetParse w (lookL l)) Exit.ret _ wf
    refine bodyPost_ret (by simp [results, Try.results49, go_sem, r0, r1, r2]; try rfl) rfl ?_
    exact hfin
  · have hDM : decide (q < n) = (lookL l).spoilt := by
      rw [HQN.out.1]
      by_cases hqq : q = n
      · rw [decide_eq_false hmo, decide_eq_false (show ¬ q < n by omega), decide_eq_true (show (q : Int) = n by omega)]; rfl
      · rw [decide_eq_false hmo, decide_eq_true (show q < n by omega), decide_eq_false (show ¬ (q : Int) = n by omega)]; rfl
    have k1 : decide ((k5 : Int) + 2 + m7 < (L.length : Int) + 1) = false := decide_eq_false (by omega)
    have k2 : ¬ (k5 : Int) + 2 + m7 < (L.length : Int) + 1 := by omega
    have HPY := Lib.hid (parse_yes (w := w) (K := lookL l) (dm := decide (q < n)) HZ7.out HB8.out rfl hgs hw1s w0.heap.size hw0 HW.out.1 hDM HW.out.2.2.1.symm HQN.out.2.1 HQN.out.2.2 HO8.out HS8.out)
    have HWg := Lib.hid hgs
    clear hDM hgs hw0 hw1s hone h24 h63 hbs
    go_wp2_with fail
    obtain ⟨s2, hfin⟩ := HPY.out
    generalize ((World.setCell w7 ⟨w.heap.size, 0, none⟩ (.int .u64 (lookL l).gen)).setCell ⟨w.heap.size, 1, none⟩ (.slice A8 (k5 + m7) c8)).setCell ⟨w.heap.size, 2, none⟩ (.bool (decide (q < n))) = wf at *
    have r0 := s2.cell 0
    have r1 := s2.cell 1
    have r2 := s2.cell 2
    simp only [List.getElem?_cons_zero, List.getElem?_cons_succ] at r0 r1 r2
    (try simp only [Exit.inBlock, Exit.then])
    show bodyPost Try.prog Try.f49 (RetParse w (lookL l)) Exit.ret _ wf
    refine bodyPost_ret (by simp [results, Try.results49, go_sem, r0, r1, r2]; try rfl) rfl ?_
    exact hfin
end Go.Proofs.Ytafdgibkhefplaa.wal
