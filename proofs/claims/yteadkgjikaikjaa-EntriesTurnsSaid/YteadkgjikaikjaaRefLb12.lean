/- The document's entries: Merge, where the number is below Base. Conditions: the log's numbers stay far from the ends of an int. -/
import Derived.Test.YteadkgjikaikjaaRefE12
import Derived.Test.YteadkgjikaikjaaRefA12
import Derived.Test.YteadkgjikaikjaaLd12
import Derived.Test.YteadkgjikaikjaaVs12
import Derived.Test.YteadkgjikaikjaaKitLg
import Derived.Test.YteadkgjikaikjaaTk
import Derived.Deep.RegionHeld3
import Derived.Deep.Cut
import Derived.Lib.Hide
namespace Go.Proofs.Yteadkgjikaikjaa.ref12
open Go Go.RowKit Go.Proofs.Yteadkgjikaikjaa.kit Go.Proofs.Yteadkgjikaikjaa.nums Go.Proofs.Yteadkgjikaikjaa.cf Go.Proofs.Yteadkgjikaikjaa.lg
set_option linter.unusedVariables false
set_option maxHeartbeats 16000000 in
set_option maxRecDepth 10000 in
theorem rmerge_lo (L : LgL) (A : Option Addr) (n c : Nat) (prev term : Int) (A2 : Option Addr) (n2 c2 : Nat) (es2 : List EnL) (w : World) (B : Nat) (hR : RdE w B A n L.es) (hB : B ≤ w.heap.size) (hc : n ≤ c) (hf : Fit L) (B2 : Nat) (hE : RdE w B2 A2 n2 es2) (hB2 : B2 ≤ w.heap.size) (hc2 : n2 ≤ c2) (hn2 : n2 ≤ 1000000) (c3 : ¬ L.b ≤ prev) :
    Calls Try.prog 29 #[lgV L (.slice A n c), .int .i64 prev, .int .i64 term, .slice A2 n2 c2] w fun e w' => ∃ A' n' c', e = .returned (.tuple #[lgV (mergeF L prev term es2).1 (.slice A' n' c'), .int .i64 (mergeF L prev term es2).2.1, .bool (mergeF L prev term es2).2.2]) ∧ n' = (mergeF L prev term es2).1.es.length ∧ RdE w' w'.heap.size A' n' (mergeF L prev term es2).1.es ∧ n' ≤ c' ∧ Below w.heap.size w w' := by
  have HR := Lib.hid hR
  have HE := Lib.hid hE
  have hBs := Lib.hid hB
  have hBt := Lib.hid hB2
  have HF := Lib.hid hf
  have hlh := Lib.hid hR.1
  have hle := Lib.hid hE.1
  have hlast : lastF L = L.b + (n : Int) := by unfold lastF; rw [hR.1]
  have f0 := hf.1
  have f1 := hf.2.1
  have f2 := hf.2.2
  rw [hR.1] at f2
  have hJ : joinB L prev term es2.length = (decide (0 ≤ prev ∧ prev ≤ L.b + (n : Int) ∧ L.b ≤ prev + (n2 : Int)) && (!(termF L prev).2 || (termF L prev).1 == term)) := by unfold joinB; rw [hlast, hE.1]
  have hIs := termF_is L prev
  rw [hlast] at hIs
  replace hJ := Lib.hid hJ
  replace hIs := Lib.hid hIs
  have R0 := hR.more hB
  have E0 := hE.more hB2
  replace hlast := Lib.hid hlast
  clear hR hE hB hB2 hf
  go_enter Try.func29, Try.ntmps29
  go_wp2_with (refine kit.box_L rfl _ rfl L (.slice A n c) rfl ?_)
  intro y1 kL e1 s1
  clear s1
  have HB := e1
  replace R0 := R0.on e1 e1.size
  replace E0 := E0.on e1 e1.size
  clear e1
  go_wp2_with (first | refine kit.al_L rfl rfl ?_ | (first | refine kit.lo_L _ rfl rfl rfl kL ?_))
  intro y2 kR e2 s2
  clear s2
  replace kR : Blk _ _ _ (lgC zL (.slice none 0 0)) := kR
  have LTkLkR := Lib.hid kL.lt
  replace HB := HB.trans (e2.mono HB.size)
  replace kL := kL.below e2 kL.lt
  replace R0 := R0.on e2 e2.size
  replace E0 := E0.on e2 e2.size
  clear e2
  generalize y1.heap.size = gkR at *
  have c1 : ¬ L.b + (n : Int) < prev := by omega
  by_cases c2 : prev < 0
  · skip
    have hd : decide (0 ≤ prev ∧ prev ≤ L.b + (n : Int) ∧ L.b ≤ prev + (n2 : Int)) = false := decide_eq_false (by omega)
    go_wp2_with (first | refine kit.lo_L _ rfl rfl rfl kL ?_ | refine kit.lo_L _ rfl rfl rfl kR ?_)
    have CC := rlast_any L A n c y2 R0.1 HF.out
    rw [hlast.out] at CC
    refine (CC).mono ?_
    rintro e y3 ⟨rfl, hY⟩
    replace HB := HB.trans (hY.mono HB.size)
    replace kL := kL.below hY kL.lt
    replace kR := kR.below hY kR.lt
    replace R0 := R0.on hY hY.size
    replace E0 := E0.on hY hY.size
    clear hY
    clear CC
    have HM : Hid (mergeF L prev term es2 = (L, 0, false)) := by show _ = _; unfold mergeF; rw [hJ.out, hd, Bool.false_and] <;> rfl
    go_wp2_with (first | (first | refine kit.lo_L _ rfl rfl rfl kL ?_ | refine kit.lo_L _ rfl rfl rfl kR ?_) | refine kit.st_L rfl _ _ rfl L A n c rfl rfl _ kR rfl ?_)
    intro yz kZ pz
    have HB2 := pz.below _ _ HB (Nat.le_of_lt LTkLkR.out)
    clear kL kR HB pz R0 E0
    go_wp2_with fail
    (try simp only [Exit.inBlock, Exit.then])
    refine bodyPost_ret (res3 Try.results29 rfl rfl rfl (aggL _) (sizeL _) (ldL kZ)) rfl ?_
    exact ⟨A, n, c, by rw [HM.out]; rfl, by rw [HM.out]; exact hlh.out.symm, by rw [HM.out]; exact HR.out.on (HB2.mono hBs.out) (Nat.le_trans hBs.out HB2.size), hc, HB2⟩
  have wb : IntKind.i64.wrap (L.b - prev) = L.b - prev := kit.wrap_sm (by omega) (by omega)
  have h2 : (termF L prev).2 = false := by rw [hIs.out]; exact decide_eq_false (by omega)
  by_cases c4 : L.b ≤ prev + (n2 : Int)
  · skip
    have hJt : joinB L prev term es2.length = true := by rw [hJ.out, h2, Bool.not_false, Bool.true_or, Bool.and_true]; exact decide_eq_true (by omega)
    have c5 : ¬ ((n2 : Int) < L.b - prev) := by omega
    clear hJ
    have hJ := Lib.hid hJt
    clear hJt h2
    go_wp2_with (first | refine kit.lo_L _ rfl rfl rfl kL ?_ | refine kit.lo_L _ rfl rfl rfl kR ?_)
    have CC := rlast_any L A n c y2 R0.1 HF.out
    rw [hlast.out] at CC
    refine (CC).mono ?_
    rintro e y3 ⟨rfl, hY⟩
    replace HB := HB.trans (hY.mono HB.size)
    replace kL := kL.below hY kL.lt
    replace kR := kR.below hY kR.lt
    replace R0 := R0.on hY hY.size
    replace E0 := E0.on hY hY.size
    clear hY
    clear CC
    have cL0 : _ = some (Value.int .i64 L.b) := kL.cell 0
    have HM : Hid (mergeF L prev term es2 = ({ L with es := laidF L prev es2 }, prev + (n2 : Int), true)) := by show _ = _; unfold mergeF; rw [hJ.out, if_pos rfl, hle.out] <;> rfl
    obtain ⟨u, hu⟩ : ∃ u : Nat, max prev L.b = L.b + (u : Int) := ⟨(max prev L.b - L.b).toNat, by omega⟩
    obtain ⟨v, hv⟩ : ∃ v : Nat, max prev L.b = prev + (v : Int) := ⟨(max prev L.b - prev).toNat, by omega⟩
    have hpu : prev + (v : Int) = L.b + (u : Int) := by omega
    have huv : u = 0 ∨ v = 0 := by omega
    have hun : u ≤ n := by omega
    have hvn : v ≤ n2 := by omega
    have HU := Lib.hid hu
    have HV := Lib.hid hv
    clear hu hv
    go_upto_region 9 with (first | refine kit.lo_L _ rfl rfl rfl kL ?_ | refine kit.lo_L _ rfl rfl rfl kR ?_)
    have lkL := kL.lt
    have lkR := kR.lt
    have t4 := Below.refl y3.heap.size y3
    go_wp2_with (first | refine kit.al_L rfl rfl ?_ | (first | refine kit.lo_L _ rfl rfl rfl kL ?_ | refine kit.lo_L _ rfl rfl rfl kR ?_))
    intro x5 zkO e5 s5
    replace kL := kL.below e5 kL.lt
    replace kR := kR.below e5 kR.lt
    have lekO := t4.size
    replace t4 := t4.trans (e5.mono t4.size)
    go_wp2_with (refine kit.st_L rfl _ _ rfl L A n c rfl rfl _ zkO rfl ?_)
    intro y6 kO p6
    replace kL := kL.put p6 (Nat.ne_of_lt (Nat.lt_of_lt_of_le lkL lekO))
    replace kR := kR.put p6 (Nat.ne_of_lt (Nat.lt_of_lt_of_le lkR lekO))
    replace t4 := p6.below _ _ t4 lekO
    have NEkLkO := Lib.hid (Nat.ne_of_gt (Nat.lt_of_lt_of_le lkL lekO))
    have LTkLkO := Lib.hid (Nat.lt_of_lt_of_le lkL lekO)
    have NEkRkO := Lib.hid (Nat.ne_of_gt (Nat.lt_of_lt_of_le lkR lekO))
    have LTkRkO := Lib.hid (Nat.lt_of_lt_of_le lkR lekO)
    replace R0 := R0.on t4 t4.size
    replace E0 := E0.on t4 t4.size
    replace HB := HB.trans (t4.mono HB.size)
    clear lkL lkR s5 e5 lekO t4
    generalize y3.heap.size = gkO at *
    try clear zkO
    have hA := (Below.refl y6.heap.size y6).alloc (Nat.le_refl _) (.cells #[] 37)
    have kk : Blk 37 (y6.alloc (.cells #[] 37)) y6.heap.size [] := heap_alloc_new y6 _
    have o0 := OwnE.empty (base := y6.heap.size) kk (Nat.le_refl _)
    have RL := R0.on hA hA.size
    have cL13 : (y6.alloc (.cells #[] 37)).cell? ⟨w.heap.size, 13, none⟩ = some (.slice A n c) := (kL.alloc _).cell 13
    have hgO := kO.lt
    have hgRO := Lib.hid kR.lt
    clear kk
    go_upto_region 10 with (first | refine kit.lo_L _ rfl rfl rfl kL ?_ | refine kit.lo_L _ rfl rfl rfl kR ?_ | refine kit.lo_L _ rfl rfl rfl kO ?_)
    go_wp2_with (at_builtin; with_reducible refine wpList_append_E rfl (.tmp 50) (.tmp 52) rfl y6.heap.size _ 0 0 [] rfl o0 _ A n c L.es rfl RL ?hb1 hA.size ?_)
    case hb1 => omega
    intro A' c' yA hO hYA hGA
    (try simp only [Nat.zero_add, List.nil_append] at hO)
    (try simp only [Nat.zero_add])
    have hAY := hA.trans hYA
    clear hA hYA hGA o0 RL cL13
    clear R0 E0
    replace HB := HB.trans (hAY.mono HB.size)
    replace kL := kL.below hAY kL.lt
    replace kR := kR.below hAY kR.lt
    replace kO := kO.below hAY kO.lt
    clear hAY
    have df := fun i => kO.frozen i
    have cO13 : _ = some _ := kO.cell 13
    go_upto_region 11 with (fail)
    have kO2 := set_es kO (.slice A' n c')
    have pO := put_set yA gkO 13 (.slice A' n c')
    clear df cO13 kO
    generalize (yA.setCell ⟨gkO, 13, none⟩ (.slice A' n c')) = yB at *
    replace kL := kL.put pO (Nat.ne_of_lt LTkLkO.out)
    replace kR := kR.put pO (Nat.ne_of_lt LTkRkO.out)
    replace hO := hO.put pO hgO
    replace HB := pO.below _ _ HB (Nat.le_of_lt LTkLkO.out)
    have kO := kO2
    clear kO2 pO hgO
    have R0 := HR.out.on (HB.mono hBs.out) (Nat.le_trans hBs.out HB.size)
    have E0 := HE.out.on (HB.mono hBt.out) (Nat.le_trans hBt.out HB.size)
    have hcO := Lib.hid hO.cap.2.1
    have BkL := Lib.hid kL
    clear kL
    have BkR := Lib.hid kR
    clear kR
    have BkO := Lib.hid kO
    clear kO
    have BR0 := Lib.hid R0
    clear R0
    have BE0 := Lib.hid E0
    clear E0
    have BhO := Lib.hid hO
    clear hO
    have BH := Lib.hid HB
    clear HB
    have w1p : IntKind.i64.wrap (prev + 1) = prev + 1 := kit.wrap_sm (by omega) (by omega)
    have wl : IntKind.i64.wrap (prev + (n2 : Int)) = prev + (n2 : Int) := kit.wrap_sm (by omega) (by omega)
    go_wp2_with fail
    go_loopw [14] (fun iv wr => ∃ k : Nat, k ≤ n2 ∧ iv = .int .i64 (k : Int) ∧ Hid (∀ j, v + j < k → ∃ x y, L.es[u + j]? = some x ∧ es2[v + j]? = some y ∧ x.t = y.t) ∧ Hid (Below yB.heap.size yB wr)) (fun iv _ => n2 - (intOf iv).toNat)
    case atStart => exact ⟨0, Nat.zero_le _, rfl, Lib.hid (fun j hj => absurd hj (by omega)), Lib.hid (Below.refl _ _)⟩
    case round =>
      obtain ⟨k, hk, rfl, HAg, HY⟩ := hrel
      by_cases hkn : k < n2
      · skip
        have kL := BkL.out.below HY.out BkL.out.lt
        have kR := BkR.out.below HY.out BkR.out.lt
        have kO := BkO.out.below HY.out BkO.out.lt
        have R0 := BR0.out.on HY.out HY.out.size
        have E0 := BE0.out.on HY.out HY.out.size
        have hO := BhO.out.below HY.out
        have HB := HY.out
        have ck : (k : Int) < (n2 : Int) := by omega
        have wk : IntKind.i64.wrap ((k : Int) + 1) = ((k + 1 : Nat) : Int) := by rw [kit.wrap_sm (by omega) (by omega)]; omega
        have wi : IntKind.i64.wrap (prev + 1 + (k : Int)) = prev + 1 + (k : Int) := kit.wrap_sm (by omega) (by omega)
        have cL0 : _ = some (Value.int .i64 L.b) := kL.cell 0
        by_cases hkv : k < v
        · skip
          have ci : prev + 1 + (k : Int) ≤ L.b := by omega
          go_wp2_with (first | refine kit.lo_L _ rfl rfl rfl kL ?_ | refine kit.lo_L _ rfl rfl rfl kR ?_ | refine kit.lo_L _ rfl rfl rfl kO ?_)
          go_roundw
          case rel => exact ⟨k + 1, by omega, rfl, Lib.hid (fun j hj => absurd hj (by omega)), Lib.hid HB⟩
          case measure => simp only [intOf]; omega
        · skip
          obtain ⟨j, hj⟩ : ∃ j : Nat, k = v + j := ⟨k - v, by omega⟩
          have ci : ¬ (prev + 1 + (k : Int) ≤ L.b) := by omega
          have hib : prev + 1 + (k : Int) = L.b + 1 + ((u + j : Nat) : Int) := by omega
          replace hj := Lib.hid hj
          replace hib := Lib.hid hib
          go_wp2_with (first | refine kit.lo_L _ rfl rfl rfl kL ?_ | refine kit.lo_L _ rfl rfl rfl kR ?_ | refine kit.lo_L _ rfl rfl rfl kO ?_)
          have CC := rterm_any L A n c (prev + 1 + (k : Int)) wr wr.heap.size R0 (Nat.le_refl _) hc HF.out
          by_cases hun2 : u + j < n
          · skip
            obtain ⟨x, hx⟩ : ∃ x, L.es[u + j]? = some x := ⟨_, List.getElem?_eq_getElem (by rw [hlh.out]; exact hun2)⟩
            have hto : termF L (prev + 1 + (k : Int)) = (x.t, true) := termF_in hib.out hx
            rw [hto] at CC
            dsimp only at CC
            clear hto
            replace hx := Lib.hid hx
            refine (CC).mono ?_
            rintro e y7 ⟨rfl, hY⟩
            replace HB := HB.trans (hY.mono HB.size)
            replace kL := kL.below hY kL.lt
            replace kR := kR.below hY kR.lt
            replace kO := kO.below hY kO.lt
            replace R0 := R0.on hY hY.size
            replace E0 := E0.on hY hY.size
            replace hO := hO.below hY
            clear hY
            clear CC cL0
            obtain ⟨b5, o5, y, rfl, hlt5, hy, hA5⟩ := E0.at_ hkn
            have c50 : _ = some (Value.int .i64 y.t) := hA5 0 _ rfl
            rw [Nat.add_zero] at c50
            clear hA5
            replace hy := Lib.hid hy
            have hii : (0 : Int) ≤ (k : Int) := by omega
            by_cases hxy : x.t = y.t
            · skip
              have hxb : (x.t != y.t) = false := by simp [hxy]
              go_wp2_with (first | refine kit.lo_L _ rfl rfl rfl kL ?_ | refine kit.lo_L _ rfl rfl rfl kR ?_ | refine kit.lo_L _ rfl rfl rfl kO ?_)
              go_roundw
              case rel => exact ⟨k + 1, by omega, rfl, Lib.hid (fun i hi => by
                                have hj2 := hj.out
                                by_cases hij : i < j
                                · exact HAg.out i (by omega)
                                · obtain rfl : i = j := by omega
                                  exact ⟨x, y, hx.out, hj2 ▸ hy.out, hxy⟩), Lib.hid HB⟩
              case measure => simp only [intOf]; omega
            · skip
              have hxb : (x.t != y.t) = true := by simp [hxy]
              have hst : Hid (∀ x' y', L.es[u + j]? = some x' → es2[v + j]? = some y' → x'.t ≠ y'.t) := fun x' y' h1 h2 => by
                rw [hx.out] at h1
                rw [← hj.out, hy.out] at h2
                rw [← Option.some.inj h1, ← Option.some.inj h2]; exact hxy
              have hujn : u + j ≤ n := by
                rcases Nat.eq_zero_or_pos j with h0 | h0
                · omega
                · obtain ⟨x0, _, h1, _⟩ := HAg.out (j - 1) (by have := hj.out; omega)
                  have h2 := (List.getElem?_eq_some_iff.1 h1).1
                  rw [hlh.out] at h2; omega
              obtain ⟨A8, c8, e8, R8⟩ := R0.upto (q := u + j) hujn hc
              obtain ⟨A9, c9, e9, R9⟩ := E0.from (p := k) (by omega) hc2
              have HLD : Hid (laidF L prev es2 = L.es.take (u + j) ++ es2.drop k) := by show _ = _; rw [hj.out]; exact laid_stop HU.out HV.out (by rw [hle.out]; have := hj.out; omega) (fun i hi => HAg.out i (by have := hj.out; omega)) hst.out
              have w81 : IntKind.i64.wrap (prev + 1 + (k : Int) - L.b) = ((u + j : Nat) : Int) + 1 := by have := hib.out; rw [kit.wrap_sm (by omega) (by omega)]; omega
              have w82 : IntKind.i64.wrap (((u + j : Nat) : Int) + 1 - 1) = ((u + j : Nat) : Int) := by rw [kit.wrap_sm (by omega) (by omega)]; omega
              have w83 : IntKind.i64.wrap ((u + j : Nat) : Int) = ((u + j : Nat) : Int) := kit.wrap_sm (by omega) (by omega)
              obtain ⟨q, hq⟩ : ∃ q, u + j = q := ⟨_, rfl⟩
              rw [hq] at w81 w82 w83 HLD R8 e8
              have hqn : q ≤ n := by omega
              replace hqn := Lib.hid hqn
              replace hq := Lib.hid hq
              clear hun2 hujn
              have hkn2 := Lib.hid hkn
              clear hkn hk hun hvn huv hpu hkv
              have e8h := Lib.hid e8
              have e9h := Lib.hid e9
              clear e8 e9
              go_upto_region 18 with (first | refine kit.lo_L _ rfl rfl rfl kL ?_ | refine kit.lo_L _ rfl rfl rfl kR ?_ | refine kit.lo_L _ rfl rfl rfl kO ?_)
              refine wp_region_held_drew (S := fun wq => wq.cell? ⟨w.heap.size, 0, none⟩ = some (.int .i64 L.b) ∧ wq.cell? ⟨w.heap.size, 13, none⟩ = some (.slice A n c)) (by kernel_rfl) ?s_rmg18ab (fun hHeld => ?_)
              case s_rmg18ab => exact ⟨kL.cell 0, kL.cell 13⟩
              have hD := (Below.refl y7.heap.size y7).drew
              replace R8 := R8.on hD hD.size
              replace R9 := R9.on hD hD.size
              replace HB := HB.trans (hD.mono HB.size)
              replace kL := kL.below hD kL.lt
              replace kR := kR.below hD kR.lt
              replace kO := kO.below hD kO.lt
              replace R0 := R0.on hD hD.size
              replace E0 := E0.on hD hD.size
              replace hO := hO.below hD
              clear hD
              generalize y7.drew = yD at *
              have hgL := Lib.hid kL.lt
              have hgR := Lib.hid kR.lt
              have hgO2 := Lib.hid kO.lt
              have hgB : Hid (yB.heap.size ≤ yD.heap.size) := HB.size
              have R9low := Lib.hid R9
              have hXE := Lib.hid ((Below.refl yD.heap.size yD).alloc (Nat.le_refl _) (.cells #[] 37))
              refine tk 1 { dst := some 87, op := .fieldAddr 30 (.tmp 4) 3, type := 0, pos := "ref.go:90", after := #[], guard := none } _ ?_
              try simp only [Act.put, List.setIfInBounds_toArray, List.set_cons_zero, List.set_cons_succ]
              refine tk 2 { dst := some 88, op := .load 28 (.tmp 87), type := 28, pos := "ref.go:90", after := #[{ on := 1, ground := .data }], guard := none } _ ?_
              try simp only [Act.put, List.setIfInBounds_toArray, List.set_cons_zero, List.set_cons_succ]
              refine tk 3 { dst := some 89, op := .move (.tmp 15), type := 3, pos := "ref.go:90", after := #[], guard := none } _ ?_
              try simp only [Act.put, List.setIfInBounds_toArray, List.set_cons_zero, List.set_cons_succ]
              refine tk 4 { dst := some 90, op := .fieldAddr 30 (.tmp 4) 0, type := 0, pos := "ref.go:90", after := #[], guard := none } _ ?_
              try simp only [Act.put, List.setIfInBounds_toArray, List.set_cons_zero, List.set_cons_succ]
              refine tk 5 { dst := some 91, op := .load 3 (.tmp 90), type := 3, pos := "ref.go:90", after := #[{ on := 4, ground := .data }], guard := none } _ ?_
              try simp only [Act.put, List.setIfInBounds_toArray, List.set_cons_zero, List.set_cons_succ]
              refine tk 6 { dst := some 92, op := .binOp .sub 3 (.tmp 89) (.tmp 91) 3, type := 3, pos := "ref.go:90", after := #[{ on := 3, ground := .data }, { on := 5, ground := .data }], guard := none } _ ?_
              try simp only [Act.put, List.setIfInBounds_toArray, List.set_cons_zero, List.set_cons_succ]
              refine tk 7 { dst := some 93, op := .binOp .sub 3 (.tmp 92) (.const (.int .i64 1)) 3, type := 3, pos := "ref.go:90", after := #[{ on := 6, ground := .data }], guard := none } _ ?_
              try simp only [Act.put, List.setIfInBounds_toArray, List.set_cons_zero, List.set_cons_succ]
              refine tk 8 { dst := some 94, op := .slice 28 (.tmp 88) none (some (.tmp 93)) none, type := 28, pos := "ref.go:90", after := #[{ on := 2, ground := .data }, { on := 7, ground := .data }], guard := none } (.slice A8 q c8) ?_ (hy := fun wq hSw => kit.run_slh rfl rfl rfl (by have := hqn.out; omega) e8h.out)
              try simp only [Act.put, List.setIfInBounds_toArray, List.set_cons_zero, List.set_cons_succ]
              refine tk 10 { dst := some 96, op := .move (.tmp 3), type := 28, pos := "ref.go:90", after := #[], guard := none } _ ?_
              try simp only [Act.put, List.setIfInBounds_toArray, List.set_cons_zero, List.set_cons_succ]
              refine tk 11 { dst := some 97, op := .move (.tmp 14), type := 3, pos := "ref.go:90", after := #[], guard := none } _ ?_
              try simp only [Act.put, List.setIfInBounds_toArray, List.set_cons_zero, List.set_cons_succ]
              refine tk 12 { dst := some 98, op := .slice 28 (.tmp 96) (some (.tmp 97)) none none, type := 28, pos := "ref.go:90", after := #[{ on := 10, ground := .data }, { on := 11, ground := .data }], guard := none } (.slice A9 (n2 - k) c9) ?_ (hy := fun wq hSw => kit.run_sll rfl rfl rfl (by have := hkn2.out; omega) e9h.out)
              try simp only [Act.put, List.setIfInBounds_toArray, List.set_cons_zero, List.set_cons_succ]
              refine wpAnyH_ready (rs := [0]) (by kernel_rfl) (by simp) ?_
              refine AllReadyH.cons (o := { dst := some 86, op := .buildSlice 28 0 #[], type := 28, pos := "ref.go:90", after := #[], guard := none }) rfl (fun KQ hKQ => ?_) AllReadyH.nil
              go_simp
              have hX := (Below.refl yD.heap.size yD).alloc (Nat.le_refl _) (.cells #[] 37)
              have kk : Blk 37 (yD.alloc (.cells #[] 37)) yD.heap.size [] := heap_alloc_new yD _
              have o0 := OwnE.empty (base := yD.heap.size) kk (Nat.le_refl _)
              clear kk
              replace R8 := R8.on hX hX.size
              replace R9 := R9.on hX hX.size
              have hbD := hX.size
              replace HB := HB.trans (hX.mono HB.size)
              replace kL := kL.below hX kL.lt
              replace kR := kR.below hX kR.lt
              replace kO := kO.below hX kO.lt
              replace R0 := R0.on hX hX.size
              replace E0 := E0.on hX hX.size
              replace hO := hO.below hX
              clear hX
              generalize (yD.alloc (.cells #[] 37)) = yE at *
              refine hKQ.out _ _ ?s_0 (fun hHeld0 => ?_)
              case s_0 => exact ⟨kL.cell 0, kL.cell 13⟩
              clear hKQ KQ
              try simp only [Act.put, List.setIfInBounds_toArray, List.set_cons_zero, List.set_cons_succ]
              refine wpAnyH_ready (rs := [9]) (by kernel_rfl) (by simp) ?_
              refine AllReadyH.cons (o := { dst := some 95, op := .call { callee := .builtin .append, args := #[.tmp 86, .tmp 94], argTypes := #[28, 28] }, type := 28, pos := "ref.go:90", after := #[{ on := 0, ground := .data }, { on := 8, ground := .data }], guard := none }) rfl (fun KQ hKQ => ?_) AllReadyH.nil
              refine step_appR rfl _ _ 28 rfl _ _ rfl rfl _ (ref12.app_E _ o0 R8 (by have := hqn.out; omega) hbD) ?_
              rintro z3 yF ⟨A3, c3, rfl, o3, hX, hG3⟩
              (try simp only [Nat.zero_add, List.nil_append] at o3)
              (try simp only [Nat.zero_add])
              have kL2 := kL.below hX hgL.out
              have kR2 := kR.below hX hgR.out
              have kO2 := kO.below hX hgO2.out
              replace HB := HB.trans (hX.mono hgB.out)
              clear kL kR kO
              have kL := kL2
              have kR := kR2
              have kO := kO2
              clear kL2 kR2 kO2
              have R9b := R9
              clear o0 R8
              refine hKQ.out _ _ ?s_9 (fun hHeld9 => ?_)
              case s_9 => exact ⟨kL.cell 0, kL.cell 13⟩
              clear hKQ KQ
              try simp only [Act.put, List.setIfInBounds_toArray, List.set_cons_zero, List.set_cons_succ]
              refine wpAnyH_ready (rs := [13]) (by kernel_rfl) (by simp) ?_
              refine AllReadyH.cons (o := { dst := some 99, op := .call { callee := .builtin .append, args := #[.tmp 95, .tmp 98], argTypes := #[28, 28] }, type := 28, pos := "ref.go:90", after := #[{ on := 9, ground := .data }, { on := 12, ground := .data }, { on := 9, ground := .chain }], guard := none }) rfl (fun KQ hKQ => ?_) AllReadyH.nil
              have R9c : RdE yF yD.heap.size A9 (n2 - k) (es2.drop k) := R9low.out.below (hXE.out.trans hX)
              refine step_appR rfl _ _ 28 rfl _ _ rfl rfl _ (ref12.app_E _ o3 R9c (by have := hqn.out; have := hkn2.out; omega) (Nat.le_trans hbD hX.size)) ?_
              rintro z4 yG ⟨A4, c4, rfl, o4, hZ, hG4⟩
              have kL2 := kL.below hZ hgL.out
              have kR2 := kR.below hZ hgR.out
              have kO2 := kO.below hZ hgO2.out
              replace HB := HB.trans (hZ.mono hgB.out)
              clear kL kR kO
              have kL := kL2
              have kR := kR2
              have kO := kO2
              clear kL2 kR2 kO2
              refine hKQ.out _ _ ?s_13 (fun hHeld13 => ?_)
              case s_13 => exact ⟨kL.cell 0, kL.cell 13⟩
              clear hKQ KQ
              try simp only [Act.put, List.setIfInBounds_toArray, List.set_cons_zero, List.set_cons_succ]
              refine tk 14 { dst := some 100, op := .fieldAddr 30 (.tmp 13) 3, type := 0, pos := "ref.go:90", after := #[{ on := 0, ground := .phase }, { on := 1, ground := .phase }, { on := 2, ground := .phase }, { on := 3, ground := .phase }, { on := 4, ground := .phase }, { on := 5, ground := .phase }, { on := 6, ground := .phase }, { on := 7, ground := .phase }, { on := 8, ground := .phase }, { on := 9, ground := .phase }, { on := 10, ground := .phase }, { on := 11, ground := .phase }, { on := 12, ground := .phase }, { on := 13, ground := .phase }], guard := none } _ ?_
              try simp only [Act.put, List.setIfInBounds_toArray, List.set_cons_zero, List.set_cons_succ]
              refine wpAnyH_ready (rs := [15]) (by kernel_rfl) (by simp) ?_
              refine AllReadyH.cons (o := { dst := none, op := .store 28 (.tmp 100) (.tmp 99), type := 0, pos := "ref.go:90", after := #[{ on := 14, ground := .data }, { on := 13, ground := .data }, { on := 13, ground := .chain }, { on := 0, ground := .phase }, { on := 1, ground := .phase }, { on := 2, ground := .phase }, { on := 3, ground := .phase }, { on := 4, ground := .phase }, { on := 5, ground := .phase }, { on := 6, ground := .phase }, { on := 7, ground := .phase }, { on := 8, ground := .phase }, { on := 9, ground := .phase }, { on := 10, ground := .phase }, { on := 11, ground := .phase }, { on := 12, ground := .phase }, { on := 13, ground := .phase }], guard := none }) rfl (fun KQ hKQ => ?_) AllReadyH.nil
              have df := fun i => kO.frozen i
              have cO13 : _ = some _ := kO.cell 13
              go_simp
              have kO2 := set_es kO (.slice A4 (q + (n2 - k)) c4)
              have pO := put_set yG gkO 13 (.slice A4 (q + (n2 - k)) c4)
              clear df cO13 kO
              generalize (yG.setCell ⟨gkO, 13, none⟩ (.slice A4 (q + (n2 - k)) c4)) = yH at *
              replace kL := kL.put pO (Nat.ne_of_lt LTkLkO.out)
              replace kR := kR.put pO (Nat.ne_of_lt LTkRkO.out)
              replace o4 := o4.put pO hgO2.out
              have HBw := pO.below _ _ (BH.out.trans (HB.mono BH.out.size)) (Nat.le_of_lt LTkLkO.out)
              have kO := kO2
              clear kO2 pO
              refine hKQ.out _ _ ?s_15 (fun hHeld15 => ?_)
              case s_15 => exact ⟨kL.cell 0, kL.cell 13⟩
              clear hKQ KQ
              try simp only [Act.put]
              refine wpAnyH_done (by kernel_rfl) ?_ _
              have HB := HBw
              have hO := o4
              clear HBw o4
              have hlenq : q + (n2 - k) = (L.es.take q ++ es2.drop k).length := by rw [List.length_append, List.length_take, List.length_drop, hlh.out, hle.out]; have := hqn.out; omega
              replace hlenq := Lib.hid hlenq
              go_upto_region 19 with (first | refine kit.lo_L _ rfl rfl rfl kL ?_ | refine kit.lo_L _ rfl rfl rfl kR ?_ | refine kit.lo_L _ rfl rfl rfl kO ?_)
              go_wp2_with (first | (first | refine kit.lo_L _ rfl rfl rfl kL ?_ | refine kit.lo_L _ rfl rfl rfl kR ?_ | refine kit.lo_L _ rfl rfl rfl kO ?_) | refine kit.st_L rfl _ _ rfl L A4 (q + (n2 - k)) c4 rfl rfl _ kR rfl ?_)
              intro yz kZ pz
              have HB2 := pz.below _ _ HB (Nat.le_of_lt LTkLkR.out)
              have hO2 := hO.put pz hgR.out
              clear kL kR kO HB pz
              go_wp2_with fail
              (try simp only [Exit.inBlock, Exit.then])
              refine bodyPost_ret (res3 Try.results29 rfl rfl rfl (aggL _) (sizeL _) (ldL kZ)) rfl ?_
              exact ⟨A4, q + (n2 - k), c4, by rw [HM.out]; rfl, by rw [HM.out]; show _ = (laidF L prev es2).length; rw [HLD.out]; exact hlenq.out, by rw [HM.out]; show RdE _ _ _ _ (laidF L prev es2); rw [HLD.out]; exact hO2.cap.2.2.2, hO2.cap.2.1, HB2⟩
          · skip
            have hto : termF L (prev + 1 + (k : Int)) = (0, false) := termF_out (.inr (by rw [hlast.out]; have := hib.out; omega))
            rw [hto] at CC
            dsimp only at CC
            clear hto
            refine (CC).mono ?_
            rintro e y7 ⟨rfl, hY⟩
            replace HB := HB.trans (hY.mono HB.size)
            replace kL := kL.below hY kL.lt
            replace kR := kR.below hY kR.lt
            replace kO := kO.below hY kO.lt
            replace R0 := R0.on hY hY.size
            replace E0 := E0.on hY hY.size
            replace hO := hO.below hY
            clear hY
            clear CC cL0
            have hst : Hid (∀ x' y', L.es[u + j]? = some x' → es2[v + j]? = some y' → x'.t ≠ y'.t) := fun x' y' h1 _ => absurd (List.getElem?_eq_some_iff.1 h1).1 (by rw [hlh.out]; omega)
            have hujn : u + j ≤ n := by
              rcases Nat.eq_zero_or_pos j with h0 | h0
              · omega
              · obtain ⟨x0, _, h1, _⟩ := HAg.out (j - 1) (by have := hj.out; omega)
                have h2 := (List.getElem?_eq_some_iff.1 h1).1
                rw [hlh.out] at h2; omega
            obtain ⟨A8, c8, e8, R8⟩ := R0.upto (q := u + j) hujn hc
            obtain ⟨A9, c9, e9, R9⟩ := E0.from (p := k) (by omega) hc2
            have HLD : Hid (laidF L prev es2 = L.es.take (u + j) ++ es2.drop k) := by show _ = _; rw [hj.out]; exact laid_stop HU.out HV.out (by rw [hle.out]; have := hj.out; omega) (fun i hi => HAg.out i (by have := hj.out; omega)) hst.out
            have w81 : IntKind.i64.wrap (prev + 1 + (k : Int) - L.b) = ((u + j : Nat) : Int) + 1 := by have := hib.out; rw [kit.wrap_sm (by omega) (by omega)]; omega
            have w82 : IntKind.i64.wrap (((u + j : Nat) : Int) + 1 - 1) = ((u + j : Nat) : Int) := by rw [kit.wrap_sm (by omega) (by omega)]; omega
            have w83 : IntKind.i64.wrap ((u + j : Nat) : Int) = ((u + j : Nat) : Int) := kit.wrap_sm (by omega) (by omega)
            obtain ⟨q, hq⟩ : ∃ q, u + j = q := ⟨_, rfl⟩
            rw [hq] at w81 w82 w83 HLD R8 e8
            have hqn : q ≤ n := by omega
            replace hqn := Lib.hid hqn
            replace hq := Lib.hid hq
            clear hun2 hujn
            have hkn2 := Lib.hid hkn
            clear hkn hk hun hvn huv hpu hkv
            have e8h := Lib.hid e8
            have e9h := Lib.hid e9
            clear e8 e9
            iterate 80 (first | go_values | go_skip | go_guarded | go_step | go_upon | go_back | go_simp)
            refine wp_region_held_drew (S := fun wq => wq.cell? ⟨w.heap.size, 0, none⟩ = some (.int .i64 L.b) ∧ wq.cell? ⟨w.heap.size, 13, none⟩ = some (.slice A n c)) (by kernel_rfl) ?s_rmg18bb (fun hHeld => ?_)
            case s_rmg18bb => exact ⟨kL.cell 0, kL.cell 13⟩
            have hD := (Below.refl y7.heap.size y7).drew
            replace R8 := R8.on hD hD.size
            replace R9 := R9.on hD hD.size
            replace HB := HB.trans (hD.mono HB.size)
            replace kL := kL.below hD kL.lt
            replace kR := kR.below hD kR.lt
            replace kO := kO.below hD kO.lt
            replace R0 := R0.on hD hD.size
            replace E0 := E0.on hD hD.size
            replace hO := hO.below hD
            clear hD
            generalize y7.drew = yD at *
            have hgL := Lib.hid kL.lt
            have hgR := Lib.hid kR.lt
            have hgO2 := Lib.hid kO.lt
            have hgB : Hid (yB.heap.size ≤ yD.heap.size) := HB.size
            have R9low := Lib.hid R9
            have hXE := Lib.hid ((Below.refl yD.heap.size yD).alloc (Nat.le_refl _) (.cells #[] 37))
            refine tk 1 { dst := some 87, op := .fieldAddr 30 (.tmp 4) 3, type := 0, pos := "ref.go:90", after := #[], guard := none } _ ?_
            try simp only [Act.put, List.setIfInBounds_toArray, List.set_cons_zero, List.set_cons_succ]
            refine tk 2 { dst := some 88, op := .load 28 (.tmp 87), type := 28, pos := "ref.go:90", after := #[{ on := 1, ground := .data }], guard := none } _ ?_
            try simp only [Act.put, List.setIfInBounds_toArray, List.set_cons_zero, List.set_cons_succ]
            refine tk 3 { dst := some 89, op := .move (.tmp 15), type := 3, pos := "ref.go:90", after := #[], guard := none } _ ?_
            try simp only [Act.put, List.setIfInBounds_toArray, List.set_cons_zero, List.set_cons_succ]
            refine tk 4 { dst := some 90, op := .fieldAddr 30 (.tmp 4) 0, type := 0, pos := "ref.go:90", after := #[], guard := none } _ ?_
            try simp only [Act.put, List.setIfInBounds_toArray, List.set_cons_zero, List.set_cons_succ]
            refine tk 5 { dst := some 91, op := .load 3 (.tmp 90), type := 3, pos := "ref.go:90", after := #[{ on := 4, ground := .data }], guard := none } _ ?_
            try simp only [Act.put, List.setIfInBounds_toArray, List.set_cons_zero, List.set_cons_succ]
            refine tk 6 { dst := some 92, op := .binOp .sub 3 (.tmp 89) (.tmp 91) 3, type := 3, pos := "ref.go:90", after := #[{ on := 3, ground := .data }, { on := 5, ground := .data }], guard := none } _ ?_
            try simp only [Act.put, List.setIfInBounds_toArray, List.set_cons_zero, List.set_cons_succ]
            refine tk 7 { dst := some 93, op := .binOp .sub 3 (.tmp 92) (.const (.int .i64 1)) 3, type := 3, pos := "ref.go:90", after := #[{ on := 6, ground := .data }], guard := none } _ ?_
            try simp only [Act.put, List.setIfInBounds_toArray, List.set_cons_zero, List.set_cons_succ]
            refine tk 8 { dst := some 94, op := .slice 28 (.tmp 88) none (some (.tmp 93)) none, type := 28, pos := "ref.go:90", after := #[{ on := 2, ground := .data }, { on := 7, ground := .data }], guard := none } (.slice A8 q c8) ?_ (hy := fun wq hSw => kit.run_slh rfl rfl rfl (by have := hqn.out; omega) e8h.out)
            try simp only [Act.put, List.setIfInBounds_toArray, List.set_cons_zero, List.set_cons_succ]
            refine tk 10 { dst := some 96, op := .move (.tmp 3), type := 28, pos := "ref.go:90", after := #[], guard := none } _ ?_
            try simp only [Act.put, List.setIfInBounds_toArray, List.set_cons_zero, List.set_cons_succ]
            refine tk 11 { dst := some 97, op := .move (.tmp 14), type := 3, pos := "ref.go:90", after := #[], guard := none } _ ?_
            try simp only [Act.put, List.setIfInBounds_toArray, List.set_cons_zero, List.set_cons_succ]
            refine tk 12 { dst := some 98, op := .slice 28 (.tmp 96) (some (.tmp 97)) none none, type := 28, pos := "ref.go:90", after := #[{ on := 10, ground := .data }, { on := 11, ground := .data }], guard := none } (.slice A9 (n2 - k) c9) ?_ (hy := fun wq hSw => kit.run_sll rfl rfl rfl (by have := hkn2.out; omega) e9h.out)
            try simp only [Act.put, List.setIfInBounds_toArray, List.set_cons_zero, List.set_cons_succ]
            refine wpAnyH_ready (rs := [0]) (by kernel_rfl) (by simp) ?_
            refine AllReadyH.cons (o := { dst := some 86, op := .buildSlice 28 0 #[], type := 28, pos := "ref.go:90", after := #[], guard := none }) rfl (fun KQ hKQ => ?_) AllReadyH.nil
            go_simp
            have hX := (Below.refl yD.heap.size yD).alloc (Nat.le_refl _) (.cells #[] 37)
            have kk : Blk 37 (yD.alloc (.cells #[] 37)) yD.heap.size [] := heap_alloc_new yD _
            have o0 := OwnE.empty (base := yD.heap.size) kk (Nat.le_refl _)
            clear kk
            replace R8 := R8.on hX hX.size
            replace R9 := R9.on hX hX.size
            have hbD := hX.size
            replace HB := HB.trans (hX.mono HB.size)
            replace kL := kL.below hX kL.lt
            replace kR := kR.below hX kR.lt
            replace kO := kO.below hX kO.lt
            replace R0 := R0.on hX hX.size
            replace E0 := E0.on hX hX.size
            replace hO := hO.below hX
            clear hX
            generalize (yD.alloc (.cells #[] 37)) = yE at *
            refine hKQ.out _ _ ?s_0 (fun hHeld0 => ?_)
            case s_0 => exact ⟨kL.cell 0, kL.cell 13⟩
            clear hKQ KQ
            try simp only [Act.put, List.setIfInBounds_toArray, List.set_cons_zero, List.set_cons_succ]
            refine wpAnyH_ready (rs := [9]) (by kernel_rfl) (by simp) ?_
            refine AllReadyH.cons (o := { dst := some 95, op := .call { callee := .builtin .append, args := #[.tmp 86, .tmp 94], argTypes := #[28, 28] }, type := 28, pos := "ref.go:90", after := #[{ on := 0, ground := .data }, { on := 8, ground := .data }], guard := none }) rfl (fun KQ hKQ => ?_) AllReadyH.nil
            refine step_appR rfl _ _ 28 rfl _ _ rfl rfl _ (ref12.app_E _ o0 R8 (by have := hqn.out; omega) hbD) ?_
            rintro z3 yF ⟨A3, c3, rfl, o3, hX, hG3⟩
            (try simp only [Nat.zero_add, List.nil_append] at o3)
            (try simp only [Nat.zero_add])
            have kL2 := kL.below hX hgL.out
            have kR2 := kR.below hX hgR.out
            have kO2 := kO.below hX hgO2.out
            replace HB := HB.trans (hX.mono hgB.out)
            clear kL kR kO
            have kL := kL2
            have kR := kR2
            have kO := kO2
            clear kL2 kR2 kO2
            have R9b := R9
            clear o0 R8
            refine hKQ.out _ _ ?s_9 (fun hHeld9 => ?_)
            case s_9 => exact ⟨kL.cell 0, kL.cell 13⟩
            clear hKQ KQ
            try simp only [Act.put, List.setIfInBounds_toArray, List.set_cons_zero, List.set_cons_succ]
            refine wpAnyH_ready (rs := [13]) (by kernel_rfl) (by simp) ?_
            refine AllReadyH.cons (o := { dst := some 99, op := .call { callee := .builtin .append, args := #[.tmp 95, .tmp 98], argTypes := #[28, 28] }, type := 28, pos := "ref.go:90", after := #[{ on := 9, ground := .data }, { on := 12, ground := .data }, { on := 9, ground := .chain }], guard := none }) rfl (fun KQ hKQ => ?_) AllReadyH.nil
            have R9c : RdE yF yD.heap.size A9 (n2 - k) (es2.drop k) := R9low.out.below (hXE.out.trans hX)
            refine step_appR rfl _ _ 28 rfl _ _ rfl rfl _ (ref12.app_E _ o3 R9c (by have := hqn.out; have := hkn2.out; omega) (Nat.le_trans hbD hX.size)) ?_
            rintro z4 yG ⟨A4, c4, rfl, o4, hZ, hG4⟩
            have kL2 := kL.below hZ hgL.out
            have kR2 := kR.below hZ hgR.out
            have kO2 := kO.below hZ hgO2.out
            replace HB := HB.trans (hZ.mono hgB.out)
            clear kL kR kO
            have kL := kL2
            have kR := kR2
            have kO := kO2
            clear kL2 kR2 kO2
            refine hKQ.out _ _ ?s_13 (fun hHeld13 => ?_)
            case s_13 => exact ⟨kL.cell 0, kL.cell 13⟩
            clear hKQ KQ
            try simp only [Act.put, List.setIfInBounds_toArray, List.set_cons_zero, List.set_cons_succ]
            refine tk 14 { dst := some 100, op := .fieldAddr 30 (.tmp 13) 3, type := 0, pos := "ref.go:90", after := #[{ on := 0, ground := .phase }, { on := 1, ground := .phase }, { on := 2, ground := .phase }, { on := 3, ground := .phase }, { on := 4, ground := .phase }, { on := 5, ground := .phase }, { on := 6, ground := .phase }, { on := 7, ground := .phase }, { on := 8, ground := .phase }, { on := 9, ground := .phase }, { on := 10, ground := .phase }, { on := 11, ground := .phase }, { on := 12, ground := .phase }, { on := 13, ground := .phase }], guard := none } _ ?_
            try simp only [Act.put, List.setIfInBounds_toArray, List.set_cons_zero, List.set_cons_succ]
            refine wpAnyH_ready (rs := [15]) (by kernel_rfl) (by simp) ?_
            refine AllReadyH.cons (o := { dst := none, op := .store 28 (.tmp 100) (.tmp 99), type := 0, pos := "ref.go:90", after := #[{ on := 14, ground := .data }, { on := 13, ground := .data }, { on := 13, ground := .chain }, { on := 0, ground := .phase }, { on := 1, ground := .phase }, { on := 2, ground := .phase }, { on := 3, ground := .phase }, { on := 4, ground := .phase }, { on := 5, ground := .phase }, { on := 6, ground := .phase }, { on := 7, ground := .phase }, { on := 8, ground := .phase }, { on := 9, ground := .phase }, { on := 10, ground := .phase }, { on := 11, ground := .phase }, { on := 12, ground := .phase }, { on := 13, ground := .phase }], guard := none }) rfl (fun KQ hKQ => ?_) AllReadyH.nil
            have df := fun i => kO.frozen i
            have cO13 : _ = some _ := kO.cell 13
            go_simp
            have kO2 := set_es kO (.slice A4 (q + (n2 - k)) c4)
            have pO := put_set yG gkO 13 (.slice A4 (q + (n2 - k)) c4)
            clear df cO13 kO
            generalize (yG.setCell ⟨gkO, 13, none⟩ (.slice A4 (q + (n2 - k)) c4)) = yH at *
            replace kL := kL.put pO (Nat.ne_of_lt LTkLkO.out)
            replace kR := kR.put pO (Nat.ne_of_lt LTkRkO.out)
            replace o4 := o4.put pO hgO2.out
            have HBw := pO.below _ _ (BH.out.trans (HB.mono BH.out.size)) (Nat.le_of_lt LTkLkO.out)
            have kO := kO2
            clear kO2 pO
            refine hKQ.out _ _ ?s_15 (fun hHeld15 => ?_)
            case s_15 => exact ⟨kL.cell 0, kL.cell 13⟩
            clear hKQ KQ
            try simp only [Act.put]
            refine wpAnyH_done (by kernel_rfl) ?_ _
            have HB := HBw
            have hO := o4
            clear HBw o4
            have hlenq : q + (n2 - k) = (L.es.take q ++ es2.drop k).length := by rw [List.length_append, List.length_take, List.length_drop, hlh.out, hle.out]; have := hqn.out; omega
            replace hlenq := Lib.hid hlenq
            go_upto_region 19 with (first | refine kit.lo_L _ rfl rfl rfl kL ?_ | refine kit.lo_L _ rfl rfl rfl kR ?_ | refine kit.lo_L _ rfl rfl rfl kO ?_)
            go_wp2_with (first | (first | refine kit.lo_L _ rfl rfl rfl kL ?_ | refine kit.lo_L _ rfl rfl rfl kR ?_ | refine kit.lo_L _ rfl rfl rfl kO ?_) | refine kit.st_L rfl _ _ rfl L A4 (q + (n2 - k)) c4 rfl rfl _ kR rfl ?_)
            intro yz kZ pz
            have HB2 := pz.below _ _ HB (Nat.le_of_lt LTkLkR.out)
            have hO2 := hO.put pz hgR.out
            clear kL kR kO HB pz
            go_wp2_with fail
            (try simp only [Exit.inBlock, Exit.then])
            refine bodyPost_ret (res3 Try.results29 rfl rfl rfl (aggL _) (sizeL _) (ldL kZ)) rfl ?_
            exact ⟨A4, q + (n2 - k), c4, by rw [HM.out]; rfl, by rw [HM.out]; show _ = (laidF L prev es2).length; rw [HLD.out]; exact hlenq.out, by rw [HM.out]; show RdE _ _ _ _ (laidF L prev es2); rw [HLD.out]; exact hO2.cap.2.2.2, hO2.cap.2.1, HB2⟩
      · skip
        have kL := BkL.out.below HY.out BkL.out.lt
        have kR := BkR.out.below HY.out BkR.out.lt
        have kO := BkO.out.below HY.out BkO.out.lt
        have R0 := BR0.out.on HY.out HY.out.size
        have E0 := BE0.out.on HY.out HY.out.size
        have hO := BhO.out.below HY.out
        have HB := HY.out
        obtain rfl : k = n2 := by omega
        have ck : ¬ ((k : Int) < (k : Int)) := by omega
        have HLD : Hid (laidF L prev es2 = L.es) := laid_all HU.out HV.out (fun j hj => HAg.out j (by rw [hle.out] at hj; exact hj))
        go_upto_region 19 with (first | refine kit.lo_L _ rfl rfl rfl kL ?_ | refine kit.lo_L _ rfl rfl rfl kR ?_ | refine kit.lo_L _ rfl rfl rfl kO ?_)
        go_wp2_with (first | (first | refine kit.lo_L _ rfl rfl rfl kL ?_ | refine kit.lo_L _ rfl rfl rfl kR ?_ | refine kit.lo_L _ rfl rfl rfl kO ?_) | refine kit.st_L rfl _ _ rfl L A' n c' rfl rfl _ kR rfl ?_)
        intro yz kZ pz
        have hOz := hO.cap.2.2.2
        have HB0 := BH.out.trans (HB.mono BH.out.size)
        have HB2 := pz.below _ _ HB0 (Nat.le_of_lt LTkLkR.out)
        have hO2 := hO.put pz hgRO.out
        clear kL kR kO HB HB0 pz
        go_wp2_with fail
        (try simp only [Exit.inBlock, Exit.then])
        refine bodyPost_ret (res3 Try.results29 rfl rfl rfl (aggL _) (sizeL _) (ldL kZ)) rfl ?_
        exact ⟨_, _, _, by rw [HM.out, HLD.out]; rfl, by rw [HM.out]; rw [HLD.out]; exact hlh.out.symm, by rw [HM.out]; show RdE _ _ _ _ (laidF L prev es2); rw [HLD.out]; exact hO2.cap.2.2.2, hO2.cap.2.1, HB2⟩
  · skip
    have hd : decide (0 ≤ prev ∧ prev ≤ L.b + (n : Int) ∧ L.b ≤ prev + (n2 : Int)) = false := decide_eq_false (by omega)
    have c5 : (n2 : Int) < L.b - prev := by omega
    go_wp2_with (first | refine kit.lo_L _ rfl rfl rfl kL ?_ | refine kit.lo_L _ rfl rfl rfl kR ?_)
    have CC := rlast_any L A n c y2 R0.1 HF.out
    rw [hlast.out] at CC
    refine (CC).mono ?_
    rintro e y3 ⟨rfl, hY⟩
    replace HB := HB.trans (hY.mono HB.size)
    replace kL := kL.below hY kL.lt
    replace kR := kR.below hY kR.lt
    replace R0 := R0.on hY hY.size
    replace E0 := E0.on hY hY.size
    clear hY
    clear CC
    have cL0 : _ = some (Value.int .i64 L.b) := kL.cell 0
    have HM : Hid (mergeF L prev term es2 = (L, 0, false)) := by show _ = _; unfold mergeF; rw [hJ.out, hd, Bool.false_and] <;> rfl
    go_wp2_with (first | (first | refine kit.lo_L _ rfl rfl rfl kL ?_ | refine kit.lo_L _ rfl rfl rfl kR ?_) | refine kit.st_L rfl _ _ rfl L A n c rfl rfl _ kR rfl ?_)
    intro yz kZ pz
    have HB2 := pz.below _ _ HB (Nat.le_of_lt LTkLkR.out)
    clear kL kR HB pz R0 E0
    go_wp2_with fail
    (try simp only [Exit.inBlock, Exit.then])
    refine bodyPost_ret (res3 Try.results29 rfl rfl rfl (aggL _) (sizeL _) (ldL kZ)) rfl ?_
    exact ⟨A, n, c, by rw [HM.out]; rfl, by rw [HM.out]; exact hlh.out.symm, by rw [HM.out]; exact HR.out.on (HB2.mono hBs.out) (Nat.le_trans hBs.out HB2.size), hc, HB2⟩
end Go.Proofs.Yteadkgjikaikjaa.ref12
