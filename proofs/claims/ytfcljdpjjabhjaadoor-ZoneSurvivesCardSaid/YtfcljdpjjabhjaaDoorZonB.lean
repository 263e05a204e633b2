/- The landed zone's choose: so many nodes with the least load go from one set to another. Conditions: the library's table reads as its text lays it; sets have nodes only. -/
import Derived.Test.YtfcljdpjjabhjaaDoorZonA
import Derived.Test.YtfcljdpjjabhjaaDoorKitT
import Derived.Test.YtfcljdpjjabhjaaDoorSetsI
import Derived.Test.YtfcljdpjjabhjaaDoorTk
import Derived.Deep.RegionHeld3
import Derived.Deep.Cut
namespace Go.Proofs.YtfcljdpjjabhjaaDoor.zoni
open Go Go.RowKit Go.Proofs.YtfcljdpjjabhjaaDoor.kit Go.Proofs.YtfcljdpjjabhjaaDoor.nums Go.Proofs.YtfcljdpjjabhjaaDoor.se Go.Proofs.YtfcljdpjjabhjaaDoor.cf Go.Proofs.YtfcljdpjjabhjaaDoor.zn Go.Proofs.YtfcljdpjjabhjaaDoor.ref9
set_option linter.unusedVariables false

def ChI (E1 E2 : TypeId) (p o q : Nat) (cs : List Value) (w : World) (c f : Nat) (wr : World) : Prop :=
  Blk E1 wr p (cs.set o (.int .u16 (c : Int))) ∧ Blk E2 wr q [.int .u16 (f : Int)] ∧ c < 65536 ∧ mayF f = true ∧ Turn2 p q w wr
theorem ChI.cells {E1 E2 : TypeId} {p o q : Nat} {cs : List Value} {w : World} {c f : Nat} {wr : World} (h : ChI E1 E2 p o q cs w c f wr) (ho : o < cs.length) :
    wr.cell? ⟨p, o, none⟩ = some (.int .u16 (c : Int)) ∧ wr.cell? ⟨q, 0, none⟩ = some (.int .u16 (f : Int)) ∧ wr.frozen? ⟨p, o, none⟩ = false ∧ wr.frozen? ⟨q, 0, none⟩ = false := by
  obtain ⟨h1, h2, _⟩ := h
  refine ⟨?_, h2.cell 0, h1.frozen o, h2.frozen 0⟩
  rw [h1.cell o]
  simp [ho]
theorem ChI.on {E1 E2 : TypeId} {p o q : Nat} {cs : List Value} {w : World} {c f : Nat} {wr wq : World} (h : ChI E1 E2 p o q cs w c f wr) (hb : Below wr.heap.size wr wq) : ChI E1 E2 p o q cs w c f wq := by
  obtain ⟨h1, h2, h3, h4, h5⟩ := h
  exact ⟨h1.below hb h1.lt, h2.below hb h2.lt, h3, h4, h5.below hb⟩
theorem ChI.store {E1 E2 : TypeId} {p o q : Nat} {cs : List Value} {w : World} {c f c' f' : Nat} {wr : World} (h : ChI E1 E2 p o q cs w c f wr) (hpq : p ≠ q) (hc : c' < 65536) (hf : mayF f' = true) :
    ChI E1 E2 p o q cs w c' f' ((wr.setCell ⟨p, o, none⟩ (.int .u16 (c' : Int))).setCell ⟨q, 0, none⟩ (.int .u16 (f' : Int))) := by
  obtain ⟨h1, h2, h3, h4, h5⟩ := h
  refine ⟨?_, ?_, hc, hf, (h5.setP o _).setQ 0 _⟩
  · have := (h1.set_ o (.int .u16 (c' : Int))).far (p := ⟨q, 0, none⟩) hpq (.int .u16 (f' : Int))
    rwa [List.set_set] at this
  · exact (h2.far (p := ⟨p, o, none⟩) (fun e => hpq e.symm) (.int .u16 (c' : Int))).set_ 0 (.int .u16 (f' : Int))
set_option maxHeartbeats 2000000 in
theorem choose_any (p o q : Nat) (E1 E2 : TypeId) (cs : List Value) (c f count : Nat) (A : Option Addr) (n cp : Nat) (ld : List Int) (W w : World)
    (hT : TabW W) (hB : Below W.heap.size W w) (hp : W.heap.size ≤ p) (hq : W.heap.size ≤ q) (hpq : p ≠ q) (ho : o < cs.length)
    (hI : ChI E1 E2 p o q cs w c f w) (hcnt : count ≤ 9) (hR : RdV W W.heap.size A n (i64s ld)) (hn : n ≤ 1099511627776) :
    Calls Tryd.prog 26 #[.pointer (some ⟨p, o, none⟩), .pointer (some ⟨q, 0, none⟩), .int .i64 (count : Int), .slice A n cp] w fun e w' =>
      e = .returned (.bool (chooseTo ld c f count).isSome) ∧ Turn2 p q w w' ∧ ∀ x, chooseTo ld c f count = some x → ChI E1 E2 p o q cs w x.1 x.2 w' := by
  have CL := Lib.hid (fun (s : Nat) (wr : World) (hb : Below W.heap.size W wr) (hm : mayF s = true) (h0 : s ≠ 0) => lightest_any s A n cp ld wr W.heap.size hm h0 (hR.below hb) hn (hT.on hb))
  have CW := Lib.hid (fun (s : Nat) (k : Nat) (hk : k ≤ 9) (hs : s < 65536) (wr : World) => seti.with_any s (k : Int) wr hs (by omega) (by omega))
  have CS := Lib.hid (fun (s : Nat) (k : Nat) (hk : k ≤ 9) (hs : s < 65536) (wr : World) => seti.less_any s (k : Int) wr hs (by omega) (by omega))
  have HBW := Lib.hid (fun (wr : World) (h : Turn2 p q w wr) => below_turned hB h hB.size hp hq)
  have HZ := Lib.hid (fun (j c' : Nat) (h : chooseTo ld c f j = some (c', 0)) (hj : j < count) => choose_zero h hj)
  have HS := Lib.hid (fun (j c' f' : Nat) (h : chooseTo ld c f j = some (c', f')) (hf : f' ≠ 0) => choose_succ h hf)
  clear hR hT hB
  have HI := Lib.hid hI
  clear hI
  go_enter Tryd.func26, Tryd.ntmps26
  go_wp2_with fail
  go_loopw [11] (fun iv wr => ∃ (j c' f' : Nat), j ≤ count ∧ iv = .int .i64 (j : Int) ∧ Hid (chooseTo ld c f j = some (c', f')) ∧ Hid (ChI E1 E2 p o q cs w c' f' wr)) (fun iv _ => count - (intOf iv).toNat)
  case atStart => exact ⟨0, c, f, by omega, rfl, rfl, HI.out⟩
  case round =>
    obtain ⟨j, c', f', hj, rfl, HC, HI2⟩ := hrel
    by_cases hlt : j < count
    · obtain ⟨x1, x2, x3, x4⟩ := HI2.out.cells ho
      by_cases hz : f' = 0
      · subst hz
        have HN := Lib.hid (HZ.out j c' HC.out hlt)
        go_wp2_with fail
        go_ret
        rw [HN.out]
        exact ⟨rfl, HI2.out.2.2.2.2, fun x hx => by cases hx⟩
      · have hm := HI2.out.2.2.2.1
        have hc := HI2.out.2.2.1
        have hf := may_lt hm
        obtain ⟨p1, p9, _⟩ := pick_node (ld := ld) hm hz
        have cL := Lib.hid (CL.out f' wr (HBW.out wr HI2.out.2.2.2.2) hm hz)
        have HN := Lib.hid (HS.out j c' f' HC.out hz)
        have cw := Lib.hid (CW.out c' (pickF f' ld) p9 hc)
        have cs_ := Lib.hid (CS.out f' (pickF f' ld) p9 (by omega))
        have o1 := withF_lt ((pickF f' ld : Nat) : Int) hc
        have o2 : mayF (lessF f' ((pickF f' ld : Nat) : Int)) = true := may_less _ hm
        have o3 := may_lt o2
        have hne : ((f' : Int) == 0) = false := by rw [beq_eq_false_iff_ne]; omega
        generalize withF c' ((pickF f' ld : Nat) : Int) = c2 at *
        generalize lessF f' ((pickF f' ld : Nat) : Int) = f2 at *
        generalize pickF f' ld = k at *
        have HQ := Lib.hid (fun (wq : World) (hb : Below wr.heap.size wr wq) => (HI2.out.on hb).cells ho)
        have HV := Lib.hid (fun (wq : World) (hb : Below wr.heap.size wr wq) => (HI2.out.on hb).store hpq o1 o2)
        clear CL CW CS HBW HZ HS
        go_wp2_with fail
        refine cL.out.mono ?_
        rintro e w2 ⟨rfl, rfl⟩
        go_upto_region 6 with (fail)
        have q0 := (Below.refl wr.heap.size wr).drew
        refine wp_region_held_drew (S := fun _ => True) (by kernel_rfl) trivial (fun hHeld => ?_)
        obtain ⟨x1, x2, x3, x4⟩ := HQ.out _ q0
        refine tk 0 { dst := some 22, op := .move (.tmp 0), type := 51, pos := "zone.go:123", after := #[], guard := none } _ ?_
        try simp only [Act.put, List.setIfInBounds_toArray, List.set_cons_zero, List.set_cons_succ]
        refine tk 1 { dst := some 23, op := .move (.tmp 1), type := 51, pos := "zone.go:123", after := #[{ on := 13, ground := .gcOnly Go.Departure.lateStores }], guard := none } _ ?_
        try simp only [Act.put, List.setIfInBounds_toArray, List.set_cons_zero, List.set_cons_succ]
        refine tk 2 { dst := some 24, op := .move (.tmp 0), type := 51, pos := "zone.go:123", after := #[], guard := none } _ ?_
        try simp only [Act.put, List.setIfInBounds_toArray, List.set_cons_zero, List.set_cons_succ]
        refine tk 5 { dst := some 27, op := .move (.tmp 9), type := 3, pos := "zone.go:123", after := #[], guard := none } _ ?_
        try simp only [Act.put, List.setIfInBounds_toArray, List.set_cons_zero, List.set_cons_succ]
        refine tk 7 { dst := some 29, op := .move (.tmp 1), type := 51, pos := "zone.go:123", after := #[], guard := none } _ ?_
        try simp only [Act.put, List.setIfInBounds_toArray, List.set_cons_zero, List.set_cons_succ]
        refine tk 10 { dst := some 32, op := .move (.tmp 9), type := 3, pos := "zone.go:123", after := #[], guard := none } _ ?_
        try simp only [Act.put, List.setIfInBounds_toArray, List.set_cons_zero, List.set_cons_succ]
        refine tk 3 { dst := some 25, op := .nilCheck (.tmp 24), type := 0, pos := "zone.go:123", after := #[{ on := 2, ground := .data }], guard := none } _ ?_
        try simp only [Act.put, List.setIfInBounds_toArray, List.set_cons_zero, List.set_cons_succ]
        refine tk 8 { dst := some 30, op := .nilCheck (.tmp 29), type := 0, pos := "zone.go:123", after := #[{ on := 7, ground := .data }], guard := none } _ ?_
        try simp only [Act.put, List.setIfInBounds_toArray, List.set_cons_zero, List.set_cons_succ]
        refine wpAnyH_ready (rs := [4, 9]) (by kernel_rfl) (by simp) ?_
        refine AllReadyH.cons (o := { dst := some 26, op := .load 28 (.tmp 25), type := 28, pos := "zone.go:123", after := #[{ on := 3, ground := .data }], guard := none }) rfl (fun KQ hKQ => ?_) (AllReadyH.cons (o := { dst := some 31, op := .load 28 (.tmp 30), type := 28, pos := "zone.go:123", after := #[{ on := 8, ground := .data }], guard := none }) rfl (fun KQ hKQ => ?_) (AllReadyH.nil))
        · go_simp
          refine hKQ.out _ _ ?s_4t1 (fun hHeld4 => ?_)
          case s_4t1 => trivial
          clear hKQ KQ
          try simp only [Act.put, List.setIfInBounds_toArray, List.set_cons_zero, List.set_cons_succ]
          refine wpAnyH_ready (rs := [6, 9]) (by kernel_rfl) (by simp) ?_
          refine AllReadyH.cons (o := { dst := some 28, op := .call { callee := .value (.func 48), args := #[.tmp 26, .tmp 27], argTypes := #[28, 3] }, type := 28, pos := "zone.go:123", after := #[{ on := 4, ground := .data }, { on := 5, ground := .data }], guard := none }) rfl (fun KQ hKQ => ?_) (AllReadyH.cons (o := { dst := some 31, op := .load 28 (.tmp 30), type := 28, pos := "zone.go:123", after := #[{ on := 8, ground := .data }], guard := none }) rfl (fun KQ hKQ => ?_) (AllReadyH.nil))
          · go_simp
            refine (cw.out _).mono ?_
            rintro e y1 ⟨rfl, hY1⟩
            have q1 := q0.trans (hY1.mono q0.size)
            obtain ⟨x1, x2, x3, x4⟩ := HQ.out _ q1
            go_wp2_with fail
            refine hKQ.out _ _ ?s_6t2 (fun hHeld6 => ?_)
            case s_6t2 => trivial
            clear hKQ KQ
            try simp only [Act.put, List.setIfInBounds_toArray, List.set_cons_zero, List.set_cons_succ]
            refine wpAnyH_ready (rs := [9]) (by kernel_rfl) (by simp) ?_
            refine AllReadyH.cons (o := { dst := some 31, op := .load 28 (.tmp 30), type := 28, pos := "zone.go:123", after := #[{ on := 8, ground := .data }], guard := none }) rfl (fun KQ hKQ => ?_) AllReadyH.nil
            go_simp
            refine hKQ.out _ _ ?s_9t3 (fun hHeld9 => ?_)
            case s_9t3 => trivial
            clear hKQ KQ
            try simp only [Act.put, List.setIfInBounds_toArray, List.set_cons_zero, List.set_cons_succ]
            refine wpAnyH_ready (rs := [11]) (by kernel_rfl) (by simp) ?_
            refine AllReadyH.cons (o := { dst := some 33, op := .call { callee := .value (.func 50), args := #[.tmp 31, .tmp 32], argTypes := #[28, 3] }, type := 28, pos := "zone.go:123", after := #[{ on := 9, ground := .data }, { on := 10, ground := .data }, { on := 6, ground := .chain }], guard := none }) rfl (fun KQ hKQ => ?_) AllReadyH.nil
            go_simp
            refine (cs_.out _).mono ?_
            rintro e y2 ⟨rfl, hY2⟩
            have q2 := q1.trans (hY2.mono q1.size)
            obtain ⟨x1, x2, x3, x4⟩ := HQ.out _ q2
            have HE := Lib.hid (HV.out _ q2)
            go_wp2_with fail
            refine hKQ.out _ _ ?s_11t3 (fun hHeld11 => ?_)
            case s_11t3 => trivial
            clear hKQ KQ
            try simp only [Act.put, List.setIfInBounds_toArray, List.set_cons_zero, List.set_cons_succ]
            refine tk 12 { dst := some 34, op := .nilCheck (.tmp 22), type := 0, pos := "zone.go:123", after := #[{ on := 0, ground := .data }, { on := 0, ground := .phase }, { on := 1, ground := .textOnly Go.Departure.lateStores }, { on := 2, ground := .phase }, { on := 3, ground := .phase }, { on := 4, ground := .phase }, { on := 5, ground := .phase }, { on := 6, ground := .phase }, { on := 7, ground := .textOnly Go.Departure.lateStores }, { on := 8, ground := .textOnly Go.Departure.lateStoresUnsure }, { on := 9, ground := .phase }, { on := 10, ground := .textOnly Go.Departure.lateStores }, { on := 11, ground := .phase }], guard := none } _ ?_
            try simp only [Act.put, List.setIfInBounds_toArray, List.set_cons_zero, List.set_cons_succ]
            refine wpAnyH_ready (rs := [13]) (by kernel_rfl) (by simp) ?_
            refine AllReadyH.cons (o := { dst := none, op := .store 28 (.tmp 34) (.tmp 28), type := 0, pos := "zone.go:123", after := #[{ on := 12, ground := .data }, { on := 6, ground := .data }, { on := 11, ground := .chain }, { on := 0, ground := .phase }, { on := 1, ground := .textOnly Go.Departure.lateStores }, { on := 2, ground := .phase }, { on := 3, ground := .phase }, { on := 4, ground := .phase }, { on := 5, ground := .phase }, { on := 6, ground := .phase }, { on := 7, ground := .textOnly Go.Departure.lateStores }, { on := 8, ground := .textOnly Go.Departure.lateStoresUnsure }, { on := 9, ground := .phase }, { on := 10, ground := .textOnly Go.Departure.lateStores }, { on := 11, ground := .phase }], guard := none }) rfl (fun KQ hKQ => ?_) AllReadyH.nil
            go_simp
            refine hKQ.out _ _ ?s_13t3 (fun hHeld13 => ?_)
            case s_13t3 => trivial
            clear hKQ KQ
            try simp only [Act.put]
            refine tk 14 { dst := some 35, op := .nilCheck (.tmp 23), type := 0, pos := "zone.go:123", after := #[{ on := 1, ground := .data }, { on := 0, ground := .phase }, { on := 1, ground := .phase }, { on := 2, ground := .phase }, { on := 3, ground := .phase }, { on := 4, ground := .phase }, { on := 5, ground := .phase }, { on := 6, ground := .phase }, { on := 7, ground := .phase }, { on := 8, ground := .phase }, { on := 9, ground := .phase }, { on := 10, ground := .phase }, { on := 11, ground := .phase }, { on := 12, ground := .phase }, { on := 13, ground := .phase }], guard := none } _ ?_
            try simp only [Act.put, List.setIfInBounds_toArray, List.set_cons_zero, List.set_cons_succ]
            refine wpAnyH_ready (rs := [15]) (by kernel_rfl) (by simp) ?_
            refine AllReadyH.cons (o := { dst := none, op := .store 28 (.tmp 35) (.tmp 33), type := 0, pos := "zone.go:123", after := #[{ on := 14, ground := .data }, { on := 11, ground := .data }, { on := 13, ground := .chain }, { on := 0, ground := .phase }, { on := 1, ground := .phase }, { on := 2, ground := .phase }, { on := 3, ground := .phase }, { on := 4, ground := .phase }, { on := 5, ground := .phase }, { on := 6, ground := .phase }, { on := 7, ground := .phase }, { on := 8, ground := .phase }, { on := 9, ground := .phase }, { on := 10, ground := .phase }, { on := 11, ground := .phase }, { on := 12, ground := .phase }, { on := 13, ground := .phase }], guard := none }) rfl (fun KQ hKQ => ?_) AllReadyH.nil
            go_simp
            refine hKQ.out _ _ ?s_15t3 (fun hHeld15 => ?_)
            case s_15t3 => trivial
            clear hKQ KQ
            try simp only [Act.put]
            refine wpAnyH_done (by kernel_rfl) ?_ _
            go_wp2_with fail
            go_round
            case rel => exact ⟨j + 1, c2, f2, by omega, by go_num, HN.out, HE.out⟩
            case measure => simp [intOf]; omega
          · go_simp
            refine hKQ.out _ _ ?s_9t2 (fun hHeld9 => ?_)
            case s_9t2 => trivial
            clear hKQ KQ
            try simp only [Act.put, List.setIfInBounds_toArray, List.set_cons_zero, List.set_cons_succ]
            refine wpAnyH_ready (rs := [6]) (by kernel_rfl) (by simp) ?_
            refine AllReadyH.cons (o := { dst := some 28, op := .call { callee := .value (.func 48), args := #[.tmp 26, .tmp 27], argTypes := #[28, 3] }, type := 28, pos := "zone.go:123", after := #[{ on := 4, ground := .data }, { on := 5, ground := .data }], guard := none }) rfl (fun KQ hKQ => ?_) AllReadyH.nil
            go_simp
            refine (cw.out _).mono ?_
            rintro e y1 ⟨rfl, hY1⟩
            have q1 := q0.trans (hY1.mono q0.size)
            obtain ⟨x1, x2, x3, x4⟩ := HQ.out _ q1
            go_wp2_with fail
            refine hKQ.out _ _ ?s_6t4 (fun hHeld6 => ?_)
            case s_6t4 => trivial
            clear hKQ KQ
            try simp only [Act.put, List.setIfInBounds_toArray, List.set_cons_zero, List.set_cons_succ]
            refine wpAnyH_ready (rs := [11]) (by kernel_rfl) (by simp) ?_
            refine AllReadyH.cons (o := { dst := some 33, op := .call { callee := .value (.func 50), args := #[.tmp 31, .tmp 32], argTypes := #[28, 3] }, type := 28, pos := "zone.go:123", after := #[{ on := 9, ground := .data }, { on := 10, ground := .data }, { on := 6, ground := .chain }], guard := none }) rfl (fun KQ hKQ => ?_) AllReadyH.nil
            go_simp
            refine (cs_.out _).mono ?_
            rintro e y2 ⟨rfl, hY2⟩
            have q2 := q1.trans (hY2.mono q1.size)
            obtain ⟨x1, x2, x3, x4⟩ := HQ.out _ q2
            have HE := Lib.hid (HV.out _ q2)
            go_wp2_with fail
            refine hKQ.out _ _ ?s_11t4 (fun hHeld11 => ?_)
            case s_11t4 => trivial
            clear hKQ KQ
            try simp only [Act.put, List.setIfInBounds_toArray, List.set_cons_zero, List.set_cons_succ]
            refine tk 12 { dst := some 34, op := .nilCheck (.tmp 22), type := 0, pos := "zone.go:123", after := #[{ on := 0, ground := .data }, { on := 0, ground := .phase }, { on := 1, ground := .textOnly Go.Departure.lateStores }, { on := 2, ground := .phase }, { on := 3, ground := .phase }, { on := 4, ground := .phase }, { on := 5, ground := .phase }, { on := 6, ground := .phase }, { on := 7, ground := .textOnly Go.Departure.lateStores }, { on := 8, ground := .textOnly Go.Departure.lateStoresUnsure }, { on := 9, ground := .phase }, { on := 10, ground := .textOnly Go.Departure.lateStores }, { on := 11, ground := .phase }], guard := none } _ ?_
            try simp only [Act.put, List.setIfInBounds_toArray, List.set_cons_zero, List.set_cons_succ]
            refine wpAnyH_ready (rs := [13]) (by kernel_rfl) (by simp) ?_
            refine AllReadyH.cons (o := { dst := none, op := .store 28 (.tmp 34) (.tmp 28), type := 0, pos := "zone.go:123", after := #[{ on := 12, ground := .data }, { on := 6, ground := .data }, { on := 11, ground := .chain }, { on := 0, ground := .phase }, { on := 1, ground := .textOnly Go.Departure.lateStores }, { on := 2, ground := .phase }, { on := 3, ground := .phase }, { on := 4, ground := .phase }, { on := 5, ground := .phase }, { on := 6, ground := .phase }, { on := 7, ground := .textOnly Go.Departure.lateStores }, { on := 8, ground := .textOnly Go.Departure.lateStoresUnsure }, { on := 9, ground := .phase }, { on := 10, ground := .textOnly Go.Departure.lateStores }, { on := 11, ground := .phase }], guard := none }) rfl (fun KQ hKQ => ?_) AllReadyH.nil
            go_simp
            refine hKQ.out _ _ ?s_13t4 (fun hHeld13 => ?_)
            case s_13t4 => trivial
            clear hKQ KQ
            try simp only [Act.put]
            refine tk 14 { dst := some 35, op := .nilCheck (.tmp 23), type := 0, pos := "zone.go:123", after := #[{ on := 1, ground := .data }, { on := 0, ground := .phase }, { on := 1, ground := .phase }, { on := 2, ground := .phase }, { on := 3, ground := .phase }, { on := 4, ground := .phase }, { on := 5, ground := .phase }, { on := 6, ground := .phase }, { on := 7, ground := .phase }, { on := 8, ground := .phase }, { on := 9, ground := .phase }, { on := 10, ground := .phase }, { on := 11, ground := .phase }, { on := 12, ground := .phase }, { on := 13, ground := .phase }], guard := none } _ ?_
            try simp only [Act.put, List.setIfInBounds_toArray, List.set_cons_zero, List.set_cons_succ]
            refine wpAnyH_ready (rs := [15]) (by kernel_rfl) (by simp) ?_
            refine AllReadyH.cons (o := { dst := none, op := .store 28 (.tmp 35) (.tmp 33), type := 0, pos := "zone.go:123", after := #[{ on := 14, ground := .data }, { on := 11, ground := .data }, { on := 13, ground := .chain }, { on := 0, ground := .phase }, { on := 1, ground := .phase }, { on := 2, ground := .phase }, { on := 3, ground := .phase }, { on := 4, ground := .phase }, { on := 5, ground := .phase }, { on := 6, ground := .phase }, { on := 7, ground := .phase }, { on := 8, ground := .phase }, { on := 9, ground := .phase }, { on := 10, ground := .phase }, { on := 11, ground := .phase }, { on := 12, ground := .phase }, { on := 13, ground := .phase }], guard := none }) rfl (fun KQ hKQ => ?_) AllReadyH.nil
            go_simp
            refine hKQ.out _ _ ?s_15t4 (fun hHeld15 => ?_)
            case s_15t4 => trivial
            clear hKQ KQ
            try simp only [Act.put]
            refine wpAnyH_done (by kernel_rfl) ?_ _
            go_wp2_with fail
            go_round
            case rel => exact ⟨j + 1, c2, f2, by omega, by go_num, HN.out, HE.out⟩
            case measure => simp [intOf]; omega
        · go_simp
          refine hKQ.out _ _ ?s_9t1 (fun hHeld9 => ?_)
          case s_9t1 => trivial
          clear hKQ KQ
          try simp only [Act.put, List.setIfInBounds_toArray, List.set_cons_zero, List.set_cons_succ]
          refine wpAnyH_ready (rs := [4]) (by kernel_rfl) (by simp) ?_
          refine AllReadyH.cons (o := { dst := some 26, op := .load 28 (.tmp 25), type := 28, pos := "zone.go:123", after := #[{ on := 3, ground := .data }], guard := none }) rfl (fun KQ hKQ => ?_) AllReadyH.nil
          go_simp
          refine hKQ.out _ _ ?s_4t5 (fun hHeld4 => ?_)
          case s_4t5 => trivial
          clear hKQ KQ
          try simp only [Act.put, List.setIfInBounds_toArray, List.set_cons_zero, List.set_cons_succ]
          refine wpAnyH_ready (rs := [6]) (by kernel_rfl) (by simp) ?_
          refine AllReadyH.cons (o := { dst := some 28, op := .call { callee := .value (.func 48), args := #[.tmp 26, .tmp 27], argTypes := #[28, 3] }, type := 28, pos := "zone.go:123", after := #[{ on := 4, ground := .data }, { on := 5, ground := .data }], guard := none }) rfl (fun KQ hKQ => ?_) AllReadyH.nil
          go_simp
          refine (cw.out _).mono ?_
          rintro e y1 ⟨rfl, hY1⟩
          have q1 := q0.trans (hY1.mono q0.size)
          obtain ⟨x1, x2, x3, x4⟩ := HQ.out _ q1
          go_wp2_with fail
          refine hKQ.out _ _ ?s_6t5 (fun hHeld6 => ?_)
          case s_6t5 => trivial
          clear hKQ KQ
          try simp only [Act.put, List.setIfInBounds_toArray, List.set_cons_zero, List.set_cons_succ]
          refine wpAnyH_ready (rs := [11]) (by kernel_rfl) (by simp) ?_
          refine AllReadyH.cons (o := { dst := some 33, op := .call { callee := .value (.func 50), args := #[.tmp 31, .tmp 32], argTypes := #[28, 3] }, type := 28, pos := "zone.go:123", after := #[{ on := 9, ground := .data }, { on := 10, ground := .data }, { on := 6, ground := .chain }], guard := none }) rfl (fun KQ hKQ => ?_) AllReadyH.nil
          go_simp
          refine (cs_.out _).mono ?_
          rintro e y2 ⟨rfl, hY2⟩
          have q2 := q1.trans (hY2.mono q1.size)
          obtain ⟨x1, x2, x3, x4⟩ := HQ.out _ q2
          have HE := Lib.hid (HV.out _ q2)
          go_wp2_with fail
          refine hKQ.out _ _ ?s_11t5 (fun hHeld11 => ?_)
          case s_11t5 => trivial
          clear hKQ KQ
          try simp only [Act.put, List.setIfInBounds_toArray, List.set_cons_zero, List.set_cons_succ]
          refine tk 12 { dst := some 34, op := .nilCheck (.tmp 22), type := 0, pos := "zone.go:123", after := #[{ on := 0, ground := .data }, { on := 0, ground := .phase }, { on := 1, ground := .textOnly Go.Departure.lateStores }, { on := 2, ground := .phase }, { on := 3, ground := .phase }, { on := 4, ground := .phase }, { on := 5, ground := .phase }, { on := 6, ground := .phase }, { on := 7, ground := .textOnly Go.Departure.lateStores }, { on := 8, ground := .textOnly Go.Departure.lateStoresUnsure }, { on := 9, ground := .phase }, { on := 10, ground := .textOnly Go.Departure.lateStores }, { on := 11, ground := .phase }], guard := none } _ ?_
          try simp only [Act.put, List.setIfInBounds_toArray, List.set_cons_zero, List.set_cons_succ]
          refine wpAnyH_ready (rs := [13]) (by kernel_rfl) (by simp) ?_
          refine AllReadyH.cons (o := { dst := none, op := .store 28 (.tmp 34) (.tmp 28), type := 0, pos := "zone.go:123", after := #[{ on := 12, ground := .data }, { on := 6, ground := .data }, { on := 11, ground := .chain }, { on := 0, ground := .phase }, { on := 1, ground := .textOnly Go.Departure.lateStores }, { on := 2, ground := .phase }, { on := 3, ground := .phase }, { on := 4, ground := .phase }, { on := 5, ground := .phase }, { on := 6, ground := .phase }, { on := 7, ground := .textOnly Go.Departure.lateStores }, { on := 8, ground := .textOnly Go.Departure.lateStoresUnsure }, { on := 9, ground := .phase }, { on := 10, ground := .textOnly Go.Departure.lateStores }, { on := 11, ground := .phase }], guard := none }) rfl (fun KQ hKQ => ?_) AllReadyH.nil
          go_simp
          refine hKQ.out _ _ ?s_13t5 (fun hHeld13 => ?_)
          case s_13t5 => trivial
          clear hKQ KQ
          try simp only [Act.put]
          refine tk 14 { dst := some 35, op := .nilCheck (.tmp 23), type := 0, pos := "zone.go:123", after := #[{ on := 1, ground := .data }, { on := 0, ground := .phase }, { on := 1, ground := .phase }, { on := 2, ground := .phase }, { on := 3, ground := .phase }, { on := 4, ground := .phase }, { on := 5, ground := .phase }, { on := 6, ground := .phase }, { on := 7, ground := .phase }, { on := 8, ground := .phase }, { on := 9, ground := .phase }, { on := 10, ground := .phase }, { on := 11, ground := .phase }, { on := 12, ground := .phase }, { on := 13, ground := .phase }], guard := none } _ ?_
          try simp only [Act.put, List.setIfInBounds_toArray, List.set_cons_zero, List.set_cons_succ]
          refine wpAnyH_ready (rs := [15]) (by kernel_rfl) (by simp) ?_
          refine AllReadyH.cons (o := { dst := none, op := .store 28 (.tmp 35) (.tmp 33), type := 0, pos := "zone.go:123", after := #[{ on := 14, ground := .data }, { on := 11, ground := .data }, { on := 13, ground := .chain }, { on := 0, ground := .phase }, { on := 1, ground := .phase }, { on := 2, ground := .phase }, { on := 3, ground := .phase }, { on := 4, ground := .phase }, { on := 5, ground := .phase }, { on := 6, ground := .phase }, { on := 7, ground := .phase }, { on := 8, ground := .phase }, { on := 9, ground := .phase }, { on := 10, ground := .phase }, { on := 11, ground := .phase }, { on := 12, ground := .phase }, { on := 13, ground := .phase }], guard := none }) rfl (fun KQ hKQ => ?_) AllReadyH.nil
          go_simp
          refine hKQ.out _ _ ?s_15t5 (fun hHeld15 => ?_)
          case s_15t5 => trivial
          clear hKQ KQ
          try simp only [Act.put]
          refine wpAnyH_done (by kernel_rfl) ?_ _
          go_wp2_with fail
          go_round
          case rel => exact ⟨j + 1, c2, f2, by omega, by go_num, HN.out, HE.out⟩
          case measure => simp [intOf]; omega
    · obtain rfl : j = count := by omega
      go_wp2_with fail
      go_ret
      rw [HC.out]
      exact ⟨rfl, HI2.out.2.2.2.2, fun x hx => by obtain rfl := Option.some.inj hx; exact HI2.out⟩
end Go.Proofs.YtfcljdpjjabhjaaDoor.zoni
