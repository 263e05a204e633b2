/- The landed core: New. Conditions: none. -/
import Derived.BigQuiet
import Derived.Deep.RegionHeld3
import Derived.Deep.Cut
import Derived.Lib.Hide
import Derived.Test.YtegnfkbmlalkeaaGreatSvEntD
import Derived.Test.YtegnfkbmlalkeaaGreatSvKitLg
import Derived.Test.YtegnfkbmlalkeaaGreatSvJ0
import Derived.Test.YtegnfkbmlalkeaaGreatSvJ2
import Derived.Test.YtegnfkbmlalkeaaGreatSvCorA13
import Derived.Test.YtegnfkbmlalkeaaGreatSvConfJ
namespace Go.Proofs.YtegnfkbmlalkeaaGreat.enti
open Go Go.RowKit Go.Proofs.YtegnfkbmlalkeaaGreat.kit Go.Proofs.YtegnfkbmlalkeaaGreat.nums Go.Proofs.YtegnfkbmlalkeaaGreat.cf Go.Proofs.YtegnfkbmlalkeaaGreat.lg
set_option linter.unusedVariables false
set_option maxHeartbeats 2000000 in
theorem may_any (L : LgL) (A : Option Addr) (n c : Nat) (w : World) (B : Nat) (hR : RdE w B A n L.es) (hB : B ≤ w.heap.size) (hn : n ≤ 1099511627776) : Calls Tryz.prog 103 #[lgV L (.slice A n c)] w fun e w' => e = .returned (.bool (mayF L)) ∧ Below w.heap.size w w' := by
 have HR := Lib.hid hR
 have hl := hR.1
 have hBs := Lib.hid hB
 have HD : Hid (∀ (q : Int) (i : Nat) (x : EnL), L.es[i]? = some x → mayE q (L.es.drop i) = (withB x.t q && mayE x.t (L.es.drop (i + 1)))) := fun q i x h => mayE_drop h
 have HE : Hid (∀ q, mayE q (L.es.drop n) = true) := fun q => by rw [List.drop_of_length_le (by rw [hl]; exact Nat.le_refl _)]; rfl
 have HZ : Hid (∀ q, mayE q L.es = mayE q (L.es.drop 0)) := fun q => rfl
 have hFr : mayF L = (withB L.b 0 && (withB L.t 0 && mayE (max L.t 1) L.es)) := rfl
 generalize mayF L = RES at *
 clear hR hB hl
 unfold lgV at *
 obtain ⟨b, t, j, es⟩ := L
 dsimp only at *
 have k0 : Blk 30 (w.alloc (.cells #[.int .i64 b, .int .i64 t, j0 j, j1 j, j2 j, j3 j, j4 j, j5 j, j6 j, j7 j, j8 j, j9 j, j10 j, .slice A n c] 30)) w.heap.size [.int .i64 b, .int .i64 t, j0 j, j1 j, j2 j, j3 j, j4 j, j5 j, j6 j, j7 j, j8 j, j9 j, j10 j, .slice A n c] := (heap_alloc_new w (.cells #[.int .i64 b, .int .i64 t, j0 j, j1 j, j2 j, j3 j, j4 j, j5 j, j6 j, j7 j, j8 j, j9 j, j10 j, .slice A n c] 30))
 have hB : Below w.heap.size w (w.alloc (.cells #[.int .i64 b, .int .i64 t, j0 j, j1 j, j2 j, j3 j, j4 j, j5 j, j6 j, j7 j, j8 j, j9 j, j10 j, .slice A n c] 30)) := ((Below.refl w.heap.size w).alloc (by first | exact Nat.le_refl _ | simp) (.cells #[.int .i64 b, .int .i64 t, j0 j, j1 j, j2 j, j3 j, j4 j, j5 j, j6 j, j7 j, j8 j, j9 j, j10 j, .slice A n c] 30))
 have HB := Lib.hid hB
 have HS : Hid (∀ wq, Below (w.alloc (.cells #[.int .i64 b, .int .i64 t, j0 j, j1 j, j2 j, j3 j, j4 j, j5 j, j6 j, j7 j, j8 j, j9 j, j10 j, .slice A n c] 30)).heap.size (w.alloc (.cells #[.int .i64 b, .int .i64 t, j0 j, j1 j, j2 j, j3 j, j4 j, j5 j, j6 j, j7 j, j8 j, j9 j, j10 j, .slice A n c] 30)) wq → (wq.cell? ⟨w.heap.size, 0, none⟩ = some (.int .i64 b) ∧ wq.cell? ⟨w.heap.size, 1, none⟩ = some (.int .i64 t) ∧ wq.cell? ⟨w.heap.size, 2, none⟩ = some (j0 j) ∧ wq.cell? ⟨w.heap.size, 3, none⟩ = some (j1 j) ∧ wq.cell? ⟨w.heap.size, 4, none⟩ = some (j2 j) ∧ wq.cell? ⟨w.heap.size, 5, none⟩ = some (j3 j) ∧ wq.cell? ⟨w.heap.size, 6, none⟩ = some (j4 j) ∧ wq.cell? ⟨w.heap.size, 7, none⟩ = some (j5 j) ∧ wq.cell? ⟨w.heap.size, 8, none⟩ = some (j6 j) ∧ wq.cell? ⟨w.heap.size, 9, none⟩ = some (j7 j) ∧ wq.cell? ⟨w.heap.size, 10, none⟩ = some (j8 j) ∧ wq.cell? ⟨w.heap.size, 11, none⟩ = some (j9 j) ∧ wq.cell? ⟨w.heap.size, 12, none⟩ = some (j10 j) ∧ wq.cell? ⟨w.heap.size, 13, none⟩ = some (.slice A n c))) := fun wq hq => blk14 (k0.below hq k0.lt)
 have q0 := Below.refl (w.alloc (.cells #[.int .i64 b, .int .i64 t, j0 j, j1 j, j2 j, j3 j, j4 j, j5 j, j6 j, j7 j, j8 j, j9 j, j10 j, .slice A n c] 30)).heap.size (w.alloc (.cells #[.int .i64 b, .int .i64 t, j0 j, j1 j, j2 j, j3 j, j4 j, j5 j, j6 j, j7 j, j8 j, j9 j, j10 j, .slice A n c] 30))
 have K0 := Lib.hid k0
 clear hB k0
 rcases hb0 : withB b 0 with _ | _
 · rw [hb0, Bool.false_and] at hFr
   have hFr := Lib.hid hFr
   go_enter Tryz.func103, Tryz.ntmps103
   go_upto_region 1 with (fail)
   generalize (w.alloc (.cells #[.int .i64 b, .int .i64 t, j0 j, j1 j, j2 j, j3 j, j4 j, j5 j, j6 j, j7 j, j8 j, j9 j, j10 j, .slice A n c] 30)) = w1 at *
   have HR1 := Lib.hid (HR.out.on (HB.out.mono hBs.out) (Nat.le_trans hBs.out HB.out.size))
   have r0 := HS.out _ q0
   go_wp2_with fail
   refine (within_any _ _ _).mono ?_
   rintro e y1 ⟨rfl, rfl⟩
   go_wp2_with fail
   go_ret
   exact ⟨by rw [hFr.out]; rfl, HB.out⟩
 · rcases hb1 : withB t 0 with _ | _
   · rw [hb0, hb1, Bool.false_and, Bool.and_false] at hFr
     have hFr := Lib.hid hFr
     go_enter Tryz.func103, Tryz.ntmps103
     go_upto_region 1 with (fail)
     generalize (w.alloc (.cells #[.int .i64 b, .int .i64 t, j0 j, j1 j, j2 j, j3 j, j4 j, j5 j, j6 j, j7 j, j8 j, j9 j, j10 j, .slice A n c] 30)) = w1 at *
     have HR1 := Lib.hid (HR.out.on (HB.out.mono hBs.out) (Nat.le_trans hBs.out HB.out.size))
     have r0 := HS.out _ q0
     go_wp2_with fail
     refine (within_any _ _ _).mono ?_
     rintro e y1 ⟨rfl, rfl⟩
     go_wp2_with fail
     refine (within_any _ _ _).mono ?_
     rintro e y1 ⟨rfl, rfl⟩
     go_wp2_with fail
     go_ret
     exact ⟨by rw [hFr.out]; rfl, HB.out⟩
   · rw [hb0, hb1, Bool.true_and, Bool.true_and, HZ.out] at hFr
     by_cases c1 : t < 1
     · have c1 : t < 1 := c1
       rw [show max t 1 = 1 by omega] at hFr
       have hFr := Lib.hid hFr
       clear HZ
       go_enter Tryz.func103, Tryz.ntmps103
       go_upto_region 1 with (fail)
       generalize (w.alloc (.cells #[.int .i64 b, .int .i64 t, j0 j, j1 j, j2 j, j3 j, j4 j, j5 j, j6 j, j7 j, j8 j, j9 j, j10 j, .slice A n c] 30)) = w1 at *
       have HR1 := Lib.hid (HR.out.on (HB.out.mono hBs.out) (Nat.le_trans hBs.out HB.out.size))
       have r0 := HS.out _ q0
       go_wp2_with fail
       refine (within_any _ _ _).mono ?_
       rintro e y1 ⟨rfl, rfl⟩
       go_wp2_with fail
       refine (within_any _ _ _).mono ?_
       rintro e y1 ⟨rfl, rfl⟩
       go_wp2_with fail
       go_loopw [3, 22] (fun tv iv wr => ∃ (i : Nat) (q : Int), i ≤ n ∧ tv = .int .i64 q ∧ iv = .int .i64 (i : Int) ∧ Hid (RES = mayE q (es.drop i)) ∧ Below w1.heap.size w1 wr) (fun _ iv _ => n - (intOf iv).toNat)
       case atStart => exact ⟨0, 1, Nat.zero_le _, rfl, rfl, hFr, Below.refl _ _⟩
       case round =>
         obtain ⟨i, q, hi, rfl, rfl, HG, hbr⟩ := hrel
         have hbr := Lib.hid hbr
         by_cases hin : i < n
         · obtain ⟨bb, oo, x, rfl, hlt, hx, hA⟩ := HR1.out.at_ (j := i) hin
           have c14 := at14 (hA.below hlt hbr.out)
           have hDx := Lib.hid (HD.out q i x hx)
           have hin1 : (i : Int) < (n : Int) := by omega
           clear hA hx HD HE
           have hb2 := Lib.hid (hbr.out.alloc hbr.out.size (.cells #[.int .i64 x.t, .int .i64 x.k, .string x.d, j0 x.j, j1 x.j, j2 x.j, j3 x.j, j4 x.j, j5 x.j, j6 x.j, j7 x.j, j8 x.j, j9 x.j, j10 x.j] 52))
           rcases hw : withB x.t q with _ | _
           · have hFr2 : Hid (RES = false) := by show _ = _; rw [HG.out, hDx.out, hw]; rfl
             clear HG hDx
             go_wp2_with fail
             refine (within_any _ _ _).mono ?_
             rintro e y1 ⟨rfl, rfl⟩
             go_wp2_with fail
             go_ret
             exact ⟨by rw [hFr2.out]; rfl, HB.out.trans (hb2.out.mono HB.out.size)⟩
           · have hFr2 : Hid (RES = mayE x.t (es.drop (i + 1))) := by show _ = _; rw [HG.out, hDx.out, hw]; rfl
             clear HG hDx
             go_wp2_with fail
             refine (within_any _ _ _).mono ?_
             rintro e y1 ⟨rfl, rfl⟩
             go_wp2_with fail
             go_roundw
             case rel => exact ⟨i + 1, x.t, by omega, rfl, by go_num, hFr2, hb2.out⟩
             case measure => simp [intOf] <;> omega
         · obtain rfl : i = n := by omega
           have hFr2 : Hid (RES = true) := by show _ = _; rw [HG.out, HE.out]
           clear HG HE HD
           go_wp2_with fail
           go_ret
           exact ⟨by rw [hFr2.out]; rfl, HB.out.trans (hbr.out.mono HB.out.size)⟩
     · have c1 : ¬ (t < 1) := c1
       rw [show max t 1 = t by omega] at hFr
       have hFr := Lib.hid hFr
       clear HZ
       go_enter Tryz.func103, Tryz.ntmps103
       go_upto_region 1 with (fail)
       generalize (w.alloc (.cells #[.int .i64 b, .int .i64 t, j0 j, j1 j, j2 j, j3 j, j4 j, j5 j, j6 j, j7 j, j8 j, j9 j, j10 j, .slice A n c] 30)) = w1 at *
       have HR1 := Lib.hid (HR.out.on (HB.out.mono hBs.out) (Nat.le_trans hBs.out HB.out.size))
       have r0 := HS.out _ q0
       go_wp2_with fail
       refine (within_any _ _ _).mono ?_
       rintro e y1 ⟨rfl, rfl⟩
       go_wp2_with fail
       refine (within_any _ _ _).mono ?_
       rintro e y1 ⟨rfl, rfl⟩
       go_wp2_with fail
       go_loopw [3, 22] (fun tv iv wr => ∃ (i : Nat) (q : Int), i ≤ n ∧ tv = .int .i64 q ∧ iv = .int .i64 (i : Int) ∧ Hid (RES = mayE q (es.drop i)) ∧ Below w1.heap.size w1 wr) (fun _ iv _ => n - (intOf iv).toNat)
       case atStart => exact ⟨0, t, Nat.zero_le _, rfl, rfl, hFr, Below.refl _ _⟩
       case round =>
         obtain ⟨i, q, hi, rfl, rfl, HG, hbr⟩ := hrel
         have hbr := Lib.hid hbr
         by_cases hin : i < n
         · obtain ⟨bb, oo, x, rfl, hlt, hx, hA⟩ := HR1.out.at_ (j := i) hin
           have c14 := at14 (hA.below hlt hbr.out)
           have hDx := Lib.hid (HD.out q i x hx)
           have hin1 : (i : Int) < (n : Int) := by omega
           clear hA hx HD HE
           have hb2 := Lib.hid (hbr.out.alloc hbr.out.size (.cells #[.int .i64 x.t, .int .i64 x.k, .string x.d, j0 x.j, j1 x.j, j2 x.j, j3 x.j, j4 x.j, j5 x.j, j6 x.j, j7 x.j, j8 x.j, j9 x.j, j10 x.j] 52))
           rcases hw : withB x.t q with _ | _
           · have hFr2 : Hid (RES = false) := by show _ = _; rw [HG.out, hDx.out, hw]; rfl
             clear HG hDx
             go_wp2_with fail
             refine (within_any _ _ _).mono ?_
             rintro e y1 ⟨rfl, rfl⟩
             go_wp2_with fail
             go_ret
             exact ⟨by rw [hFr2.out]; rfl, HB.out.trans (hb2.out.mono HB.out.size)⟩
           · have hFr2 : Hid (RES = mayE x.t (es.drop (i + 1))) := by show _ = _; rw [HG.out, hDx.out, hw]; rfl
             clear HG hDx
             go_wp2_with fail
             refine (within_any _ _ _).mono ?_
             rintro e y1 ⟨rfl, rfl⟩
             go_wp2_with fail
             go_roundw
             case rel => exact ⟨i + 1, x.t, by omega, rfl, by go_num, hFr2, hb2.out⟩
             case measure => simp [intOf] <;> omega
         · obtain rfl : i = n := by omega
           have hFr2 : Hid (RES = true) := by show _ = _; rw [HG.out, HE.out]
           clear HG HE HD
           go_wp2_with fail
           go_ret
           exact ⟨by rw [hFr2.out]; rfl, HB.out.trans (hbr.out.mono HB.out.size)⟩
end Go.Proofs.YtegnfkbmlalkeaaGreat.enti
namespace Go.Proofs.YtegnfkbmlalkeaaGreat.cor
open Go Go.RowKit Go.Proofs.YtegnfkbmlalkeaaGreat.kit Go.Proofs.YtegnfkbmlalkeaaGreat.nums Go.Proofs.YtegnfkbmlalkeaaGreat.cf Go.Proofs.YtegnfkbmlalkeaaGreat.lg Go.Proofs.YtegnfkbmlalkeaaGreat.cr Go.Proofs.YtegnfkbmlalkeaaGreat.se
set_option linter.unusedVariables false
def elB (e : EnL) : Bool := !(e.k == 2) || mayJ e.j
theorem all_bad {es : List EnL} {P : EnL → Bool} {i : Nat} {x : EnL} (hx : es[i]? = some x) (hb : P x = false) : es.all P = false := List.all_eq_false.2 ⟨x, List.mem_of_getElem? hx, by rw [hb]; simp⟩
theorem all_good {es : List EnL} {P : EnL → Bool} {n : Nat} (hn : es.length = n) (hg : ∀ (j : Nat) (x : EnL), j < n → es[j]? = some x → P x = true) : es.all P = true := List.all_eq_true.2 (fun x hx => by obtain ⟨j, hj⟩ := List.getElem?_of_mem hx; exact hg j x (by have := (List.getElem?_eq_some_iff.1 hj).1; omega) hj)
set_option maxHeartbeats 2000000 in
set_option maxRecDepth 10000 in
theorem mayConfs_any (es : List EnL) (A : Option Addr) (n p : Nat) (w : World) (B : Nat) (hR : RdE w B A n es) (hB : B ≤ w.heap.size) (hn : n ≤ 1000000000) (hok : ∀ x ∈ es, x.j.ok) : Calls Tryz.prog 105 #[.slice A n p] w fun e w' => e = .returned (.bool (es.all elB)) ∧ Below w.heap.size w w' := by
 have R0 := hR.more hB
 have hn2 := Lib.hid hn
 have HOk := Lib.hid hok
 have hlen := Lib.hid hR.len
 clear hR hB hn hok
 go_enter Tryz.func105, Tryz.ntmps105
 have HB := Below.refl w.heap.size w
 have BR0 := Lib.hid R0
 clear R0
 have BH := Lib.hid HB
 clear HB
 go_wp2_with fail
 go_loopw [7] (fun iv wr => ∃ i : Nat, i ≤ n ∧ iv = .int .i64 (i : Int) ∧ Hid (Below w.heap.size w wr) ∧ Hid (∀ (j : Nat) (x : EnL), j < i → es[j]? = some x → elB x = true)) (fun iv _ => n - (intOf iv).toNat)
 case atStart => exact ⟨0, by omega, rfl, Lib.hid (Below.refl _ _), Lib.hid (fun j x h => absurd h (by omega))⟩
 case round =>
   obtain ⟨i, hi, rfl, HY, HG⟩ := hrel
   by_cases hin : i < n
   · skip
     have R0 := BR0.out.on HY.out HY.out.size
     have HB := HY.out
     have ci : (i : Int) < (n : Int) := by omega
     have c0i : (0 : Int) ≤ (i : Int) := by omega
     have wi : IntKind.i64.wrap ((i : Int) + 1) = ((i + 1 : Nat) : Int) := by have := hn2.out; rw [wrap_sm (by omega) (by omega)]; omega
     obtain ⟨bb, oo, x, hA9, hlt9, hx, hA⟩ := R0.at_ hin
     subst hA9
     replace hx := Lib.hid hx
     have NIR0kE := Lib.hid (NotIn.of_rd R0 (Nat.le_refl _))
     have LEkE : Hid (w.heap.size ≤ wr.heap.size) := HB.size
     go_wp2_with (first | refine al_E rfl rfl ?_ | (first | refine wpList_ldAt _ rfl rfl (cells := enC x) rfl hA (aggE _) (sizeE _) ?_))
     intro y51 kE e51 s51
     clear s51
     replace kE : Blk _ _ _ (enC zE) := kE
     replace HB := bt HB e51
     replace R0 := R0.on e51 e51.size
     clear e51
     generalize wr.heap.size = gkE at *
     go_wp2_with (first | refine st_E rfl _ _ rfl x rfl rfl _ kE rfl ?_ | (first | refine lo_Ej kE ?_ | refine wpList_ldAt _ rfl rfl (cells := enC x) rfl hA (aggE _) (sizeE _) ?_))
     intro y52 kE2 pO
     replace R0 := R0.putS pO NIR0kE.out
     replace HB := pO.below _ _ HB LEkE.out
     clear kE
     have kE := kE2
     clear kE2 pO
     clear hA
     obtain ⟨xt, hxt⟩ : ∃ q, x.t = q := ⟨_, rfl⟩
     obtain ⟨xk, hxk⟩ : ∃ q, x.k = q := ⟨_, rfl⟩
     replace hxt := Lib.hid hxt
     replace hxk := Lib.hid hxk
     have hxo := Lib.hid (HOk.out x (List.mem_of_getElem? hx.out))
     have ck1 : y52.cell? ⟨gkE, 1, none⟩ = some (Value.int .i64 xk) := by rw [← hxk.out]; exact kE.cell 1
     by_cases hk2 : xk = 2
     · skip
       have hb2 : (xk == 2) = true := by simp [hk2]
       replace hk2 := Lib.hid hk2
       obtain ⟨xj, hxj⟩ : ∃ q, mayJ x.j = q := ⟨_, rfl⟩
       replace hxj := Lib.hid hxj
       go_wp2_with (first | refine lo_Ej kE ?_ | refine wpList_ldAt _ rfl rfl (cells := jC x.j) rfl (at_jE kE) (aggJ _) (sizeJ _) ?_)
       clear ck1
       have CC := confi.mayJ_any x.j y52 hxo.out
       rw [hxj.out] at CC
       refine (CC).mono ?_
       rintro e y53 ⟨rfl, hY⟩
       replace HB := bt HB hY
       replace kE := kE.b hY
       replace R0 := R0.on hY hY.size
       clear hY
       clear CC
       rcases xj with _ | _
       · skip
         have hT := Lib.hid (all_bad (P := elB) hx.out (by unfold elB; rw [hxj.out, hxk.out, hk2.out]; rfl))
         go_wp2_with fail
         go_ret
         rw [hT.out]
         exact ⟨rfl, BH.out.trans (HB.mono BH.out.size)⟩
       · skip
         have hgood : Hid (elB x = true) := by show _ = _; unfold elB; rw [hxj.out]; simp
         go_wp2_with fail
         go_roundw
         case rel => exact ⟨i + 1, by omega, rfl, Lib.hid HB, Lib.hid (fun j z hj hz => by
           rcases Nat.lt_succ_iff_lt_or_eq.1 hj with h | rfl
           · exact HG.out j z h hz
           · rw [hx.out] at hz; obtain rfl := Option.some.inj hz; exact hgood.out)⟩
         case measure => simp only [intOf]; omega
     · skip
       have hb2 : (xk == 2) = false := by simp [hk2]
       replace hk2 := Lib.hid hk2
       have hgood : Hid (elB x = true) := by show _ = _; unfold elB; rw [hxk.out]; have := hk2.out; simp [this]
       go_wp2_with fail
       go_roundw
       case rel => exact ⟨i + 1, by omega, rfl, Lib.hid HB, Lib.hid (fun j z hj hz => by
         rcases Nat.lt_succ_iff_lt_or_eq.1 hj with h | rfl
         · exact HG.out j z h hz
         · rw [hx.out] at hz; obtain rfl := Option.some.inj hz; exact hgood.out)⟩
       case measure => simp only [intOf]; omega
   · skip
     have R0 := BR0.out.on HY.out HY.out.size
     have HB := HY.out
     obtain rfl : i = n := by omega
     have ci : ¬ ((i : Int) < (i : Int)) := by omega
     have hT := Lib.hid (all_good hlen.out HG.out)
     go_wp2_with fail
     go_ret
     rw [hT.out]
     exact ⟨rfl, BH.out.trans (HB.mono BH.out.size)⟩
def becB (l : LgL) : Bool := lg.mayF l && decide (l.es.length ≤ 4096)
set_option maxHeartbeats 2000000 in
set_option maxRecDepth 10000 in
theorem mayBecome_any (L : LgL) (A : Option Addr) (n p : Nat) (w : World) (B : Nat) (hR : RdE w B A n L.es) (hB : B ≤ w.heap.size) (hn : n ≤ 1000000000) : Calls Tryz.prog 130 #[lgV L (.slice A n p)] w fun e w' => e = .returned (.bool (becB L)) ∧ Below w.heap.size w w' := by
 have R0 := hR.more hB
 have hn2 := Lib.hid hn
 have hlen := Lib.hid hR.len
 clear hR hB hn
 obtain ⟨m1, h1⟩ : ∃ q, lg.mayF L = q := ⟨_, rfl⟩
 replace h1 := Lib.hid h1
 go_enter Tryz.func130, Tryz.ntmps130
 go_wp2_with (first | refine box_L rfl _ rfl L (.slice A n p) rfl ?_ | fail)
 intro y1 kL e1 s1
 clear s1
 have HB := e1
 replace R0 := R0.on e1 e1.size
 clear e1
 go_wp2_with (first | refine lo_Lj kL ?_ | refine lo_lJj kL ?_)
 have CC := enti.may_any L A n p y1 y1.heap.size R0 (Nat.le_refl _) (by have := hn2.out; omega)
 rw [h1.out] at CC
 refine (CC).mono ?_
 rintro e y2 ⟨rfl, hY⟩
 replace HB := bt HB hY
 replace kL := kL.b hY
 replace R0 := R0.on hY hY.size
 clear hY
 clear CC
 rcases m1 with _ | _
 · skip
   have hT : Hid (becB L = false) := by show _ = _; unfold becB; rw [h1.out]; rfl
   go_wp2_with fail
   go_ret
   rw [hT.out]
   exact ⟨rfl, HB⟩
 have c13 : _ = some (Value.slice A n p) := kL.cell 13
 by_cases h4 : (n : Int) ≤ 4096
 · skip
   have hT : Hid (becB L = true) := by show _ = _; unfold becB; rw [h1.out, decide_eq_true (by have := hlen.out; omega)]; rfl
   go_wp2_with fail
   go_ret
   rw [hT.out]
   exact ⟨by first | rfl | (simp; omega), HB⟩
 · skip
   have hT : Hid (becB L = false) := by show _ = _; unfold becB; rw [h1.out, decide_eq_false (by have := hlen.out; omega)]; rfl
   go_wp2_with fail
   go_ret
   rw [hT.out]
   exact ⟨by first | rfl | (simp; omega), HB⟩
def tkB (c : CoL) (es : List EnL) : Bool := es.all (fun e => decide (e.t ≤ c.tm)) && es.all elB
set_option maxHeartbeats 2000000 in
set_option maxRecDepth 10000 in
theorem mayTake_any (c : CoL) (A : Option Addr) (nc pc : Nat) (es : List EnL) (As : Option Addr) (n p : Nat) (w : World) (B : Nat) (hR : RdE w B As n es) (hB : B ≤ w.heap.size) (hn : n ≤ 1000000000) (hok : ∀ x ∈ es, x.j.ok) : Calls Tryz.prog 128 #[crV c (.slice A nc pc), .slice As n p] w fun e w' => e = .returned (.bool (tkB c es)) ∧ Below w.heap.size w w' := by
 have R0 := hR.more hB
 have hn2 := Lib.hid hn
 have HOk := Lib.hid hok
 have hlen := Lib.hid hR.len
 clear hR hB hn hok
 obtain ⟨tm, htm⟩ : ∃ q, c.tm = q := ⟨_, rfl⟩
 replace htm := Lib.hid htm
 obtain ⟨m3, h3⟩ : ∃ q, es.all elB = q := ⟨_, rfl⟩
 replace h3 := Lib.hid h3
 obtain ⟨P, hP⟩ : ∃ q : EnL → Bool, (fun e => decide (e.t ≤ c.tm)) = q := ⟨_, rfl⟩
 have hPx : Hid (∀ x : EnL, P x = decide (x.t ≤ tm)) := fun x => by rw [← hP, htm.out]
 have htk : Hid (tkB c es = (es.all P && m3)) := by show _ = _; unfold tkB; rw [hP, h3.out]
 clear hP
 go_enter Tryz.func128, Tryz.ntmps128
 go_wp2_with (first | refine box_C rfl _ rfl c (.slice A nc pc) rfl ?_ | fail)
 intro y1 kC e1 s1
 clear s1
 have HB := e1
 replace R0 := R0.on e1 e1.size
 clear e1
 have BkC := Lib.hid kC
 clear kC
 have BR0 := Lib.hid R0
 clear R0
 have BH := Lib.hid HB
 clear HB
 go_wp2_with fail
 go_loopw [9] (fun iv wr => ∃ i : Nat, i ≤ n ∧ iv = .int .i64 (i : Int) ∧ Hid (Below y1.heap.size y1 wr) ∧ Hid (∀ (j : Nat) (x : EnL), j < i → es[j]? = some x → P x = true)) (fun iv _ => n - (intOf iv).toNat)
 case atStart => exact ⟨0, by omega, rfl, Lib.hid (Below.refl _ _), Lib.hid (fun j x h => absurd h (by omega))⟩
 case round =>
   obtain ⟨i, hi, rfl, HY, HG⟩ := hrel
   by_cases hin : i < n
   · skip
     have kC := BkC.out.below HY.out BkC.out.lt
     have R0 := BR0.out.on HY.out HY.out.size
     have HB := HY.out
     have ci : (i : Int) < (n : Int) := by omega
     have c0i : (0 : Int) ≤ (i : Int) := by omega
     have wi : IntKind.i64.wrap ((i : Int) + 1) = ((i + 1 : Nat) : Int) := by have := hn2.out; rw [wrap_sm (by omega) (by omega)]; omega
     obtain ⟨bb, oo, x, hA9, hlt9, hx, hA⟩ := R0.at_ hin
     subst hA9
     replace hx := Lib.hid hx
     have LTkCkE := Lib.hid kC.lt
     have NIR0kE := Lib.hid (NotIn.of_rd R0 (Nat.le_refl _))
     have LEkE : Hid (y1.heap.size ≤ wr.heap.size) := HB.size
     go_wp2_with (first | refine al_E rfl rfl ?_ | (first | refine lo_Cj kC ?_ | refine lo_cLj kC ?_ | refine lo_cJj kC ?_ | refine wpList_ldAt _ rfl rfl (cells := enC x) rfl hA (aggE _) (sizeE _) ?_))
     intro y51 kE e51 s51
     clear s51
     replace kE : Blk _ _ _ (enC zE) := kE
     replace HB := bt HB e51
     replace kC := kC.b e51
     replace R0 := R0.on e51 e51.size
     clear e51
     generalize wr.heap.size = gkE at *
     go_wp2_with (first | refine st_E rfl _ _ rfl x rfl rfl _ kE rfl ?_ | (first | refine lo_Cj kC ?_ | refine lo_cLj kC ?_ | refine lo_cJj kC ?_ | refine lo_Ej kE ?_ | refine wpList_ldAt _ rfl rfl (cells := enC x) rfl hA (aggE _) (sizeE _) ?_))
     intro y52 kE2 pO
     replace kC := kC.put pO (Nat.ne_of_lt LTkCkE.out)
     replace R0 := R0.putS pO NIR0kE.out
     replace HB := pO.below _ _ HB LEkE.out
     clear kE
     have kE := kE2
     clear kE2 pO
     clear hA
     obtain ⟨xt, hxt⟩ : ∃ q, x.t = q := ⟨_, rfl⟩
     obtain ⟨xk, hxk⟩ : ∃ q, x.k = q := ⟨_, rfl⟩
     replace hxt := Lib.hid hxt
     replace hxk := Lib.hid hxk
     have ct : y52.cell? ⟨gkE, 0, none⟩ = some (Value.int .i64 xt) := by rw [← hxt.out]; exact kE.cell 0
     have ctm : y52.cell? ⟨w.heap.size, 2, none⟩ = some (Value.int .i64 tm) := by rw [← htm.out]; exact kC.cell 2
     by_cases hgt : xt > tm
     · skip
       have hT := Lib.hid (all_bad (P := P) hx.out (by rw [hPx.out, hxt.out, decide_eq_false (by omega)]))
       go_wp2_with fail
       go_ret
       rw [htk.out, hT.out]
       exact ⟨rfl, BH.out.trans (HB.mono BH.out.size)⟩
     · skip
       have hgood : Hid (P x = true) := by show _ = _; rw [hPx.out, hxt.out, decide_eq_true (by omega)]
       go_wp2_with fail
       go_roundw
       case rel => exact ⟨i + 1, by omega, rfl, Lib.hid HB, Lib.hid (fun j z hj hz => by
         rcases Nat.lt_succ_iff_lt_or_eq.1 hj with h | rfl
         · exact HG.out j z h hz
         · rw [hx.out] at hz; obtain rfl := Option.some.inj hz; exact hgood.out)⟩
       case measure => simp only [intOf]; omega
   · skip
     have kC := BkC.out.below HY.out BkC.out.lt
     have R0 := BR0.out.on HY.out HY.out.size
     have HB := HY.out
     obtain rfl : i = n := by omega
     have ci : ¬ ((i : Int) < (i : Int)) := by omega
     have hT := Lib.hid (all_good hlen.out HG.out)
     clear HG
     go_wp2_with (first | refine lo_Cj kC ?_ | refine lo_cLj kC ?_ | refine lo_cJj kC ?_)
     have CC := mayConfs_any es As i p wr wr.heap.size R0 (Nat.le_refl _) hn2.out HOk.out
     rw [h3.out] at CC
     refine (CC).mono ?_
     rintro e y51 ⟨rfl, hY⟩
     replace HB := bt HB hY
     replace kC := kC.b hY
     replace R0 := R0.on hY hY.size
     clear hY
     clear CC
     go_wp2_with fail
     go_ret
     rw [htk.out, hT.out]
     exact ⟨rfl, BH.out.trans (HB.mono BH.out.size)⟩
end Go.Proofs.YtegnfkbmlalkeaaGreat.cor
namespace Go.Proofs.YtegnfkbmlalkeaaGreat.cor
open Go Go.RowKit Go.Proofs.YtegnfkbmlalkeaaGreat.kit Go.Proofs.YtegnfkbmlalkeaaGreat.nums Go.Proofs.YtegnfkbmlalkeaaGreat.cf Go.Proofs.YtegnfkbmlalkeaaGreat.lg Go.Proofs.YtegnfkbmlalkeaaGreat.cr Go.Proofs.YtegnfkbmlalkeaaGreat.se
set_option linter.unusedVariables false
theorem take_tk {c : CoL} {m : MsL} (h : ¬ m.k = 5) : takeB c m = (tkB c m.es && (!(mergeF c.lg m.i m.lt m.es).2.2 || becB (mergeF c.lg m.i m.lt m.es).1)) := by
 unfold takeB; rw [if_neg h]
 congr 1
 unfold tkB
 induction m.es with
 | nil => rfl
 | cons x l ih =>
   rw [List.all_cons, List.all_cons, List.all_cons, ih]
   show (decide (x.t ≤ c.tm) && elB x && _) = _
   cases decide (x.t ≤ c.tm) <;> cases elB x <;> simp
def tlF (c : CoL) (m : MsL) : CoL := if c.ro = 2 then c else (toldF c m).1
def taF (c : CoL) (m : MsL) : CoL × List MsL := if c.ro = 2 then (c, []) else toldF c m
def leC (c : CoL) (l : LgL) : CoL := { c with lg := l, cm := min c.cm (lastF l) }
theorem tl_no {c : CoL} {m : MsL} (hk : m.k = 6) (h : c.ro = 2 ∨ tkB c m.es = false ∨ (mergeF c.lg m.i m.lt m.es).2.2 = false ∨ becB (mergeF c.lg m.i m.lt m.es).1 = false ∨ newerF c.lg (lastF (mergeF c.lg m.i m.lt m.es).1) (termF (mergeF c.lg m.i m.lt m.es).1 (lastF (mergeF c.lg m.i m.lt m.es).1)).1 = false) : tlF c m = c := by
 unfold tlF
 by_cases hr : c.ro = 2
 · rw [if_pos hr]
 · rw [if_neg hr]
   unfold toldF
   rw [take_tk (by omega)]
   split
   · rename_i ht
     dsimp only
     try rw [if_pos hk]
     rw [if_neg]
     intro hh
     rw [Bool.and_eq_true] at ht
     rcases h with h | h | h | h | h
     · exact hr h
     · rw [h] at ht; exact absurd ht.1 (by decide)
     · rw [h] at hh; exact absurd hh.1 (by decide)
     · rw [h, hh.1] at ht; exact absurd ht.2 (by decide)
     · rw [h] at hh; exact absurd hh.2 (by decide)
   · rfl
theorem tl_yes {c : CoL} {m : MsL} (hk : m.k = 6) (hr : ¬ c.ro = 2) (h1 : tkB c m.es = true) (h2 : (mergeF c.lg m.i m.lt m.es).2.2 = true) (h3 : becB (mergeF c.lg m.i m.lt m.es).1 = true) (h4 : newerF c.lg (lastF (mergeF c.lg m.i m.lt m.es).1) (termF (mergeF c.lg m.i m.lt m.es).1 (lastF (mergeF c.lg m.i m.lt m.es).1)).1 = true) : tlF c m = leC c (mergeF c.lg m.i m.lt m.es).1 := by
 unfold tlF
 rw [if_neg hr]
 unfold toldF
 rw [take_tk (by omega), h1, h3, Bool.or_true, if_pos (by rfl : (true && true) = true)]
 dsimp only
 rw [if_pos hk, if_pos ⟨h2, h4⟩]; rfl
def apC (c : CoL) (f : Int) (l : LgL) (la mc ms : Int) : CoL := { follN c f with lg := l, cm := min (max c.cm (min mc la)) (lastF l), sf := max c.sf ms }
theorem ta_no {c : CoL} {m : MsL} (hk : m.k = 3) (h : c.ro = 2 ∨ tkB c m.es = false ∨ ((mergeF c.lg m.i m.lt m.es).2.2 = true ∧ becB (mergeF c.lg m.i m.lt m.es).1 = false)) : taF c m = (c, []) := by
 unfold taF
 by_cases hr : c.ro = 2
 · rw [if_pos hr]
 · rw [if_neg hr]
   unfold toldF
   rw [take_tk (by omega)]
   split
   · rename_i ht
     rw [Bool.and_eq_true] at ht
     rcases h with h | h | ⟨h, h5⟩
     · exact absurd h hr
     · rw [h] at ht; exact absurd ht.1 (by decide)
     · rw [h, h5] at ht; exact absurd ht.2 (by decide)
   · rfl
theorem ta_bad {c : CoL} {m : MsL} (hk : m.k = 3) (hr : ¬ c.ro = 2) (h1 : tkB c m.es = true) (h2 : (mergeF c.lg m.i m.lt m.es).2.2 = false) : taF c m = (follN c m.f, [{ letM (follN c m.f) 4 m.f with i := max (min (m.i - 1) (lastF c.lg)) 0 }]) := by
 unfold taF
 rw [if_neg hr]
 unfold toldF
 rw [take_tk (by omega), h1, h2, if_pos (by rfl : (true && (!false || _)) = true)]
 dsimp only
 rw [if_neg (by omega), if_neg (by omega), h2, if_neg (by decide)]; rfl
theorem ta_yes {c : CoL} {m : MsL} (hk : m.k = 3) (hr : ¬ c.ro = 2) (h1 : tkB c m.es = true) (h2 : (mergeF c.lg m.i m.lt m.es).2.2 = true) (h3 : becB (mergeF c.lg m.i m.lt m.es).1 = true) : taF c m = (apC c m.f (mergeF c.lg m.i m.lt m.es).1 (mergeF c.lg m.i m.lt m.es).2.1 m.c m.s, [{ letM (follN c m.f) 4 m.f with y := true, i := (mergeF c.lg m.i m.lt m.es).2.1 }]) := by
 unfold taF
 rw [if_neg hr]
 unfold toldF
 rw [take_tk (by omega), h1, h3, Bool.or_true, if_pos (by rfl : (true && true) = true)]
 dsimp only
 rw [if_neg (by omega), if_neg (by omega), if_pos h2]; rfl
end Go.Proofs.YtegnfkbmlalkeaaGreat.cor
namespace Go.Proofs.YtegnfkbmlalkeaaGreat.enti
open Go Go.RowKit Go.Proofs.YtegnfkbmlalkeaaGreat.kit Go.Proofs.YtegnfkbmlalkeaaGreat.nums Go.Proofs.YtegnfkbmlalkeaaGreat.cf Go.Proofs.YtegnfkbmlalkeaaGreat.lg
set_option linter.unusedVariables false
set_option maxHeartbeats 2000000 in
theorem joins_any (L : LgL) (A : Option Addr) (n c : Nat) (prev term : Int) (cnt : Nat) (w : World) (B : Nat) (hR : RdE w B A n L.es) (hB : B ≤ w.heap.size) (hc : n ≤ c) (hf : Fit L) (hn : cnt ≤ 3000000) : Calls Tryz.prog 167 #[lgV L (.slice A n c), .int .i64 prev, .int .i64 term, .int .i64 (cnt : Int)] w fun e w' => e = .returned (.bool (joinB L prev term cnt)) ∧ Below w.heap.size w w' := by
 have HR := Lib.hid hR
 have hl := hR.1
 have HF := Lib.hid hf
 have hBs := Lib.hid hB
 have hlast : lastF L = L.b + n := by unfold lastF; rw [hl]
 obtain ⟨f0, f1, f2⟩ := hf
 rw [hl] at f2
 unfold joinB
 rw [hlast, termF_is, hlast]
 clear hR hB hl
 unfold lgV at *
 obtain ⟨b, t, j, es⟩ := L
 dsimp only at *
 have k0 : Blk 30 (w.alloc (.cells #[.int .i64 b, .int .i64 t, j0 j, j1 j, j2 j, j3 j, j4 j, j5 j, j6 j, j7 j, j8 j, j9 j, j10 j, .slice A n c] 30)) w.heap.size [.int .i64 b, .int .i64 t, j0 j, j1 j, j2 j, j3 j, j4 j, j5 j, j6 j, j7 j, j8 j, j9 j, j10 j, .slice A n c] := (heap_alloc_new w (.cells #[.int .i64 b, .int .i64 t, j0 j, j1 j, j2 j, j3 j, j4 j, j5 j, j6 j, j7 j, j8 j, j9 j, j10 j, .slice A n c] 30))
 have hB : Below w.heap.size w (w.alloc (.cells #[.int .i64 b, .int .i64 t, j0 j, j1 j, j2 j, j3 j, j4 j, j5 j, j6 j, j7 j, j8 j, j9 j, j10 j, .slice A n c] 30)) := ((Below.refl w.heap.size w).alloc (by first | exact Nat.le_refl _ | simp) (.cells #[.int .i64 b, .int .i64 t, j0 j, j1 j, j2 j, j3 j, j4 j, j5 j, j6 j, j7 j, j8 j, j9 j, j10 j, .slice A n c] 30))
 have HB := Lib.hid hB
 have HS : Hid (∀ wq, Below (w.alloc (.cells #[.int .i64 b, .int .i64 t, j0 j, j1 j, j2 j, j3 j, j4 j, j5 j, j6 j, j7 j, j8 j, j9 j, j10 j, .slice A n c] 30)).heap.size (w.alloc (.cells #[.int .i64 b, .int .i64 t, j0 j, j1 j, j2 j, j3 j, j4 j, j5 j, j6 j, j7 j, j8 j, j9 j, j10 j, .slice A n c] 30)) wq → (wq.cell? ⟨w.heap.size, 0, none⟩ = some (.int .i64 b) ∧ wq.cell? ⟨w.heap.size, 1, none⟩ = some (.int .i64 t) ∧ wq.cell? ⟨w.heap.size, 2, none⟩ = some (j0 j) ∧ wq.cell? ⟨w.heap.size, 3, none⟩ = some (j1 j) ∧ wq.cell? ⟨w.heap.size, 4, none⟩ = some (j2 j) ∧ wq.cell? ⟨w.heap.size, 5, none⟩ = some (j3 j) ∧ wq.cell? ⟨w.heap.size, 6, none⟩ = some (j4 j) ∧ wq.cell? ⟨w.heap.size, 7, none⟩ = some (j5 j) ∧ wq.cell? ⟨w.heap.size, 8, none⟩ = some (j6 j) ∧ wq.cell? ⟨w.heap.size, 9, none⟩ = some (j7 j) ∧ wq.cell? ⟨w.heap.size, 10, none⟩ = some (j8 j) ∧ wq.cell? ⟨w.heap.size, 11, none⟩ = some (j9 j) ∧ wq.cell? ⟨w.heap.size, 12, none⟩ = some (j10 j) ∧ wq.cell? ⟨w.heap.size, 13, none⟩ = some (.slice A n c))) := fun wq hq => blk14 (k0.below hq k0.lt)
 have q0 := Below.refl (w.alloc (.cells #[.int .i64 b, .int .i64 t, j0 j, j1 j, j2 j, j3 j, j4 j, j5 j, j6 j, j7 j, j8 j, j9 j, j10 j, .slice A n c] 30)).heap.size (w.alloc (.cells #[.int .i64 b, .int .i64 t, j0 j, j1 j, j2 j, j3 j, j4 j, j5 j, j6 j, j7 j, j8 j, j9 j, j10 j, .slice A n c] 30))
 have K0 := Lib.hid k0
 clear hB k0
 by_cases c1 : prev < 0
 · have e0 : decide (0 ≤ prev ∧ prev ≤ b + (n : Int) ∧ b ≤ prev + (cnt : Int)) = false := by simp; omega
   rw [e0, Bool.false_and]
   go_enter Tryz.func167, Tryz.ntmps167
   go_upto_region 1 with (fail)
   generalize (w.alloc (.cells #[.int .i64 b, .int .i64 t, j0 j, j1 j, j2 j, j3 j, j4 j, j5 j, j6 j, j7 j, j8 j, j9 j, j10 j, .slice A n c] 30)) = w1 at *
   have HR1 := Lib.hid (HR.out.on (HB.out.mono hBs.out) (Nat.le_trans hBs.out HB.out.size))
   have CL := Lib.hid (fun w' => last_any ⟨b, t, j, es⟩ A n c w' HR1.out.1 HF.out)
   have CT := Lib.hid (fun w' (hb : Below w1.heap.size w1 w') => term_any ⟨b, t, j, es⟩ A n c prev w' w1.heap.size (HR1.out.below hb) hb.size hc HF.out)
   unfold lgV at *
   dsimp only at *
   rw [hlast] at CL
   simp only [termF_is, hlast] at CT
   clear hlast
   have r0 := HS.out _ q0
   go_wp2_with fail
   go_ret
   exact ⟨rfl, HB.out⟩
 · by_cases c2 : b + (n : Int) < prev
   · have e0 : decide (0 ≤ prev ∧ prev ≤ b + (n : Int) ∧ b ≤ prev + (cnt : Int)) = false := by simp; omega
     rw [e0, Bool.false_and]
     go_enter Tryz.func167, Tryz.ntmps167
     go_upto_region 1 with (fail)
     generalize (w.alloc (.cells #[.int .i64 b, .int .i64 t, j0 j, j1 j, j2 j, j3 j, j4 j, j5 j, j6 j, j7 j, j8 j, j9 j, j10 j, .slice A n c] 30)) = w1 at *
     have HR1 := Lib.hid (HR.out.on (HB.out.mono hBs.out) (Nat.le_trans hBs.out HB.out.size))
     have CL := Lib.hid (fun w' => last_any ⟨b, t, j, es⟩ A n c w' HR1.out.1 HF.out)
     have CT := Lib.hid (fun w' (hb : Below w1.heap.size w1 w') => term_any ⟨b, t, j, es⟩ A n c prev w' w1.heap.size (HR1.out.below hb) hb.size hc HF.out)
     unfold lgV at *
     dsimp only at *
     rw [hlast] at CL
     simp only [termF_is, hlast] at CT
     clear hlast
     have r0 := HS.out _ q0
     go_wp2_with fail
     refine (CL.out _).mono ?_
     rintro e y1 ⟨rfl, hY1⟩
     have q1 := q0.trans (hY1.mono q0.size)
     clear r0
     have r1 := HS.out _ q1
     go_wp2_with fail
     go_ret
     exact ⟨rfl, HB.out.trans (q1.mono HB.out.size)⟩
   · have w1 : IntKind.i64.wrap (prev + (cnt : Int)) = prev + (cnt : Int) := enti.wrap_sm (by omega) (by omega)
     by_cases c3 : prev + (cnt : Int) < b
     · have e0 : decide (0 ≤ prev ∧ prev ≤ b + (n : Int) ∧ b ≤ prev + (cnt : Int)) = false := by simp; omega
       rw [e0, Bool.false_and]
       go_enter Tryz.func167, Tryz.ntmps167
       go_upto_region 1 with (fail)
       generalize (w.alloc (.cells #[.int .i64 b, .int .i64 t, j0 j, j1 j, j2 j, j3 j, j4 j, j5 j, j6 j, j7 j, j8 j, j9 j, j10 j, .slice A n c] 30)) = w1 at *
       have HR1 := Lib.hid (HR.out.on (HB.out.mono hBs.out) (Nat.le_trans hBs.out HB.out.size))
       have CL := Lib.hid (fun w' => last_any ⟨b, t, j, es⟩ A n c w' HR1.out.1 HF.out)
       have CT := Lib.hid (fun w' (hb : Below w1.heap.size w1 w') => term_any ⟨b, t, j, es⟩ A n c prev w' w1.heap.size (HR1.out.below hb) hb.size hc HF.out)
       unfold lgV at *
       dsimp only at *
       rw [hlast] at CL
       simp only [termF_is, hlast] at CT
       clear hlast
       have r0 := HS.out _ q0
       go_wp2_with fail
       refine (CL.out _).mono ?_
       rintro e y1 ⟨rfl, hY1⟩
       have q1 := q0.trans (hY1.mono q0.size)
       clear r0
       have r1 := HS.out _ q1
       go_wp2_with fail
       go_ret
       exact ⟨rfl, HB.out.trans (q1.mono HB.out.size)⟩
     · have e0 : decide (0 ≤ prev ∧ prev ≤ b + (n : Int) ∧ b ≤ prev + (cnt : Int)) = true := by simp; omega
       rw [e0, Bool.true_and]
       by_cases c4 : b ≤ prev
       · have e1 : decide (b ≤ prev ∧ prev ≤ b + (n : Int)) = true := by simp; omega
         rw [e1]
         go_enter Tryz.func167, Tryz.ntmps167
         go_upto_region 1 with (fail)
         generalize (w.alloc (.cells #[.int .i64 b, .int .i64 t, j0 j, j1 j, j2 j, j3 j, j4 j, j5 j, j6 j, j7 j, j8 j, j9 j, j10 j, .slice A n c] 30)) = w1 at *
         have HR1 := Lib.hid (HR.out.on (HB.out.mono hBs.out) (Nat.le_trans hBs.out HB.out.size))
         have CL := Lib.hid (fun w' => last_any ⟨b, t, j, es⟩ A n c w' HR1.out.1 HF.out)
         have CT := Lib.hid (fun w' (hb : Below w1.heap.size w1 w') => term_any ⟨b, t, j, es⟩ A n c prev w' w1.heap.size (HR1.out.below hb) hb.size hc HF.out)
         unfold lgV at *
         dsimp only at *
         rw [hlast] at CL
         simp only [termF_is, hlast, e1] at CT
         clear hlast
         have r0 := HS.out _ q0
         go_wp2_with fail
         refine (CL.out _).mono ?_
         rintro e y1 ⟨rfl, hY1⟩
         have q1 := q0.trans (hY1.mono q0.size)
         clear r0
         have r1 := HS.out _ q1
         go_wp2_with fail
         refine (CT.out _ q1).mono ?_
         rintro e y2 ⟨rfl, hY2⟩
         have q2 := q1.trans (hY2.mono q1.size)
         clear r1
         have r2 := HS.out _ q2
         go_wp2_with fail
         go_ret
         exact ⟨by first | rfl | simp, HB.out.trans (q2.mono HB.out.size)⟩
       · have e1 : decide (b ≤ prev ∧ prev ≤ b + (n : Int)) = false := by simp; omega
         rw [e1]
         go_enter Tryz.func167, Tryz.ntmps167
         go_upto_region 1 with (fail)
         generalize (w.alloc (.cells #[.int .i64 b, .int .i64 t, j0 j, j1 j, j2 j, j3 j, j4 j, j5 j, j6 j, j7 j, j8 j, j9 j, j10 j, .slice A n c] 30)) = w1 at *
         have HR1 := Lib.hid (HR.out.on (HB.out.mono hBs.out) (Nat.le_trans hBs.out HB.out.size))
         have CL := Lib.hid (fun w' => last_any ⟨b, t, j, es⟩ A n c w' HR1.out.1 HF.out)
         have CT := Lib.hid (fun w' (hb : Below w1.heap.size w1 w') => term_any ⟨b, t, j, es⟩ A n c prev w' w1.heap.size (HR1.out.below hb) hb.size hc HF.out)
         unfold lgV at *
         dsimp only at *
         rw [hlast] at CL
         simp only [termF_is, hlast, e1] at CT
         clear hlast
         have r0 := HS.out _ q0
         go_wp2_with fail
         refine (CL.out _).mono ?_
         rintro e y1 ⟨rfl, hY1⟩
         have q1 := q0.trans (hY1.mono q0.size)
         clear r0
         have r1 := HS.out _ q1
         go_wp2_with fail
         refine (CT.out _ q1).mono ?_
         rintro e y2 ⟨rfl, hY2⟩
         have q2 := q1.trans (hY2.mono q1.size)
         clear r1
         have r2 := HS.out _ q2
         go_wp2_with fail
         go_ret
         exact ⟨by first | rfl | simp, HB.out.trans (q2.mono HB.out.size)⟩
end Go.Proofs.YtegnfkbmlalkeaaGreat.enti
namespace Go.Proofs.YtegnfkbmlalkeaaGreat.cor
open Go Go.RowKit Go.Proofs.YtegnfkbmlalkeaaGreat.kit Go.Proofs.YtegnfkbmlalkeaaGreat.nums Go.Proofs.YtegnfkbmlalkeaaGreat.cf Go.Proofs.YtegnfkbmlalkeaaGreat.lg Go.Proofs.YtegnfkbmlalkeaaGreat.cr Go.Proofs.YtegnfkbmlalkeaaGreat.se
set_option linter.unusedVariables false
set_option maxHeartbeats 2000000 in
set_option maxRecDepth 10000 in
theorem holders_any (c : CoL) (A : Option Addr) (n p : Nat) (i : Int) (w : World) : Calls Tryz.prog 170 #[crV c (.slice A n p), .int .i64 i] w fun e w' => e = .returned (.int .u16 ((hasC c i : Nat) : Int)) ∧ Below w.heap.size w w' := by
 go_enter Tryz.func170, Tryz.ntmps170
 go_wp2_with (first | go_skip | refine box_C rfl _ rfl c (.slice A n p) rfl ?_ | fail)
 intro y1 kC e1 s1
 clear s1
 have HB := e1
 clear e1
 have BkC := Lib.hid kC
 clear kC
 have BH := Lib.hid HB
 clear HB
 go_wp2_with go_skip
 go_loopw [5, 6] (fun sv nv wr => ∃ k : Nat, k ≤ 9 ∧ sv = .int .u16 (hasTo c i k : Int) ∧ nv = .int .i64 ((k + 1 : Nat) : Int) ∧ Hid (Below y1.heap.size y1 wr)) (fun _ nv _ => 10 - (intOf nv).toNat)
 case atStart => exact ⟨0, by omega, rfl, rfl, Lib.hid (Below.refl _ _)⟩
 case round =>
   obtain ⟨k, hk, rfl, rfl, HY⟩ := hrel
   by_cases hk9 : k < 9
   · skip
     have kC := BkC.out.below HY.out BkC.out.lt
     have HB := HY.out
     have ck : ((k + 1 : Nat) : Int) ≤ 9 := by omega
     have c10 : ((k + 1 : Nat) : Int) < 10 := by omega
     have c00 : (0 : Int) ≤ ((k + 1 : Nat) : Int) := by omega
     have wk : IntKind.i64.wrap (((k + 1 : Nat) : Int) + 1) = ((k + 1 + 1 : Nat) : Int) := by rw [wrap_sm (by omega) (by omega)]; omega
     have cR := cr_mt kC (show k + 1 < 10 by omega)
     have hs := ref13.has_lt c i k
     have HS : Hid (hasTo c i (k + 1) = if i ≤ c.mt (k + 1) then withF (hasTo c i k) ((k + 1 : Nat) : Int) else hasTo c i k) := rfl
     obtain ⟨t2, ht2⟩ : ∃ z, hasTo c i (k + 1) = z := ⟨_, rfl⟩
     rw [ht2] at HS
     have HT : Hid (hasTo c i (k + 1) = t2) := ht2
     clear ht2
     generalize hasTo c i k = t1 at *
     obtain ⟨j, hj⟩ : ∃ j : Nat, j = k + 1 := ⟨_, rfl⟩
     rw [← hj] at ck c10 c00 wk cR HS HT ⊢
     replace hj := Lib.hid hj
     obtain ⟨mv, hmv⟩ : ∃ z, c.mt j = z := ⟨_, rfl⟩
     rw [hmv] at cR HS
     clear hmv
     by_cases hle : i ≤ mv
     · skip
       have ht : Hid (t2 = withF t1 (j : Int)) := by show _ = _; rw [HS.out, if_pos hle]
       have hge : mv ≥ i := hle
       clear HS
       go_wp2_with (first | go_skip | refine lo_Cj kC ?_ | refine lo_cLj kC ?_ | refine lo_cJj kC ?_)
       refine (seti.with_any t1 (j : Int) wr hs (by omega) (by omega)).mono ?_
       rintro e y51 ⟨rfl, hY⟩
       replace HB := bt HB hY
       replace kC := kC.b hY
       clear hY
       go_wp2_with (first | go_skip | refine lo_Cj kC ?_ | refine lo_cLj kC ?_ | refine lo_cJj kC ?_)
       go_roundw
       case rel => exact ⟨j, by have := hj.out; omega, by rw [HT.out, ht.out], by rfl, Lib.hid HB⟩
       case measure => have := hj.out; simp only [intOf]; omega
     · skip
       have ht : Hid (t2 = t1) := by show _ = _; rw [HS.out, if_neg hle]
       have hge : ¬ mv ≥ i := hle
       clear HS
       go_wp2_with (first | go_skip | refine lo_Cj kC ?_ | refine lo_cLj kC ?_ | refine lo_cJj kC ?_)
       go_roundw
       case rel => exact ⟨j, by have := hj.out; omega, by rw [HT.out, ht.out], by rfl, Lib.hid HB⟩
       case measure => have := hj.out; simp only [intOf]; omega
   · skip
     have kC := BkC.out.below HY.out BkC.out.lt
     have HB := HY.out
     obtain rfl : k = 9 := by omega
     have ck : ¬ (((9 + 1 : Nat) : Int) ≤ 9) := by omega
     go_wp2_with go_skip
     go_ret
     exact ⟨rfl, BH.out.trans (HB.mono BH.out.size)⟩
set_option maxHeartbeats 2000000 in
set_option maxRecDepth 10000 in
theorem least_any (c : CoL) (A : Option Addr) (n p : Nat) (j : JtL) (w : World) (B : Nat) (hR : RdE w B A n c.lg.es) (hB : B ≤ w.heap.size) (hp : n ≤ p) (hf : Fit c.lg) (hj : j.ok) : Calls Tryz.prog 142 #[crV c (.slice A n p), jV j] w fun e w' => e = .returned (.int .i64 (lmTo c j 9)) ∧ Below w.heap.size w w' := by
 have HJ := Lib.hid hj
 have HF := Lib.hid hf
 have hlen := Lib.hid hR.len
 clear hj hf
 have R0 := hR.more hB
 clear hR hB
 go_enter Tryz.func142, Tryz.ntmps142
 go_wp2_with (first | go_skip | refine box_C rfl _ rfl c (.slice A n p) rfl ?_ | fail)
 intro y1 kC e1 s1
 clear s1
 have HB := e1
 replace R0 := R0.on e1 e1.size
 clear e1
 go_wp2_with (first | go_skip | refine box_J rfl _ rfl j rfl ?_ | (first | refine lo_Cj kC ?_ | refine lo_cLj kC ?_ | refine lo_cJj kC ?_))
 intro y2 kJ e2 s2
 clear s2
 replace HB := bt HB e2
 replace kC := kC.b e2
 replace R0 := R0.on e2 e2.size
 clear e2
 generalize y1.heap.size = gkJ at *
 go_wp2_with (first | go_skip | refine lo_Cj kC ?_ | refine lo_cLj kC ?_ | refine lo_cJj kC ?_ | refine lo_Jj kJ ?_)
 refine (enti.last_any c.lg A n p y2 hlen.out HF.out).mono ?_
 rintro e y3 ⟨rfl, hY⟩
 replace HB := bt HB hY
 replace kC := kC.b hY
 replace kJ := kJ.b hY
 replace R0 := R0.on hY hY.size
 clear hY
 have BkC := Lib.hid kC
 clear kC
 have BkJ := Lib.hid kJ
 clear kJ
 have BR0 := Lib.hid R0
 clear R0
 have BH := Lib.hid HB
 clear HB
 go_wp2_with go_skip
 go_loopw [5, 6] (fun sv nv wr => ∃ k : Nat, k ≤ 9 ∧ sv = .int .i64 (lmTo c j k) ∧ nv = .int .i64 ((k + 1 : Nat) : Int) ∧ Hid (Below y3.heap.size y3 wr)) (fun _ nv _ => 10 - (intOf nv).toNat)
 case atStart => exact ⟨0, by omega, rfl, rfl, Lib.hid (Below.refl _ _)⟩
 case round =>
   obtain ⟨k, hk, rfl, rfl, HY⟩ := hrel
   by_cases hk9 : k < 9
   · skip
     have kC := BkC.out.below HY.out BkC.out.lt
     have kJ := BkJ.out.below HY.out BkJ.out.lt
     have R0 := BR0.out.on HY.out HY.out.size
     have HB := HY.out
     have ck : ((k + 1 : Nat) : Int) ≤ 9 := by omega
     have c10 : ((k + 1 : Nat) : Int) < 10 := by omega
     have c00 : (0 : Int) ≤ ((k + 1 : Nat) : Int) := by omega
     have wk : IntKind.i64.wrap (((k + 1 : Nat) : Int) + 1) = ((k + 1 + 1 : Nat) : Int) := by rw [wrap_sm (by omega) (by omega)]; omega
     have cR := cr_mt kC (show k + 1 < 10 by omega)
     have HS : Hid (lmTo c j (k + 1) = if ledF j ((k + 1 : Nat) : Int) = true then min (lmTo c j k) (c.mt (k + 1)) else lmTo c j k) := rfl
     obtain ⟨t2, ht2⟩ : ∃ z, lmTo c j (k + 1) = z := ⟨_, rfl⟩
     rw [ht2] at HS
     have HT : Hid (lmTo c j (k + 1) = t2) := ht2
     clear ht2
     generalize lmTo c j k = t1 at *
     obtain ⟨q, hq⟩ : ∃ q : Nat, q = k + 1 := ⟨_, rfl⟩
     rw [← hq] at ck c10 c00 wk cR HS HT ⊢
     replace hq := Lib.hid hq
     obtain ⟨mv, hmv⟩ : ∃ z, c.mt q = z := ⟨_, rfl⟩
     rw [hmv] at HS
     clear cR
     replace hmv := Lib.hid hmv
     go_wp2_with (first | go_skip | refine lo_Cj kC ?_ | refine lo_cLj kC ?_ | refine lo_cJj kC ?_ | refine lo_Jj kJ ?_)
     have CC := confi.leads_any j (q : Int) wr HJ.out (by omega) (by omega)
     obtain ⟨lb, hlb⟩ : ∃ z, ledF j (q : Int) = z := ⟨_, rfl⟩
     rw [hlb] at CC HS
     clear hlb
     refine (CC).mono ?_
     rintro e y51 ⟨rfl, hY⟩
     replace HB := bt HB hY
     replace kC := kC.b hY
     replace kJ := kJ.b hY
     replace R0 := R0.on hY hY.size
     clear hY
     clear CC
     skip
     rcases lb with _ | _
     · skip
       have ht : Hid (t2 = t1) := by show _ = _; rw [HS.out, if_neg (by decide)]
       clear HS
       go_wp2_with go_skip
       go_roundw
       case rel => exact ⟨q, by have := hq.out; omega, by rw [HT.out, ht.out], by rfl, Lib.hid HB⟩
       case measure => have := hq.out; simp only [intOf]; omega
     · skip
       obtain ⟨mn, hmn⟩ : ∃ z, min t1 mv = z := ⟨_, rfl⟩
       have ht : Hid (t2 = mn) := by show _ = _; rw [HS.out, if_pos rfl, hmn]
       clear HS
       replace hmn := Lib.hid hmn
       have hq9 : q < 10 := by have := hq.out; omega
       have cR : y51.cell? ⟨w.heap.size, 35 + q, none⟩ = some (.int .i64 mv) := by rw [← hmv.out]; exact cr_mt kC hq9
       go_wp2_with go_skip
       go_roundw
       case rel => exact ⟨q, by have := hq.out; omega, by rw [HT.out, ht.out]; exact congrArg (Value.int .i64) (by have := hmn.out; first | (split <;> omega) | omega), by rfl, Lib.hid HB⟩
       case measure => have := hq.out; simp only [intOf]; omega
   · skip
     have kC := BkC.out.below HY.out BkC.out.lt
     have kJ := BkJ.out.below HY.out BkJ.out.lt
     have R0 := BR0.out.on HY.out HY.out.size
     have HB := HY.out
     obtain rfl : k = 9 := by omega
     have ck : ¬ (((9 + 1 : Nat) : Int) ≤ 9) := by omega
     go_wp2_with go_skip
     go_ret
     exact ⟨rfl, BH.out.trans (HB.mono BH.out.size)⟩
end Go.Proofs.YtegnfkbmlalkeaaGreat.cor
namespace Go.Proofs.YtegnfkbmlalkeaaGreat.cor
open Go Go.RowKit Go.Proofs.YtegnfkbmlalkeaaGreat.kit Go.Proofs.YtegnfkbmlalkeaaGreat.nums Go.Proofs.YtegnfkbmlalkeaaGreat.cf Go.Proofs.YtegnfkbmlalkeaaGreat.lg Go.Proofs.YtegnfkbmlalkeaaGreat.cr Go.Proofs.YtegnfkbmlalkeaaGreat.se
set_option linter.unusedVariables false
set_option maxHeartbeats 2000000 in
set_option maxRecDepth 10000 in
theorem committed_any (c : CoL) (A : Option Addr) (n p : Nat) (j : JtL) (w : World) (B : Nat) (hR : RdE w B A n c.lg.es) (hB : B ≤ w.heap.size) (hp : n ≤ p) (hf : Fit c.lg) (hk : c.lg.b ≤ c.cm ∧ c.cm ≤ lastF c.lg) (hc : conC c = j) (hj : j.ok) : Calls Tryz.prog 141 #[crV c (.slice A n p), jV j] w fun e w' => e = .returned (.int .i64 (seekF (cmtP c) c.cm (lastF c.lg - c.cm).toNat)) ∧ Below w.heap.size w w' := by
 have HF := Lib.hid hf
 have hlen := Lib.hid hR.len
 have HJ := Lib.hid hj
 have hco := Lib.hid hc
 obtain ⟨cm, hcm⟩ : ∃ q, c.cm = q := ⟨_, rfl⟩
 obtain ⟨la, hla⟩ : ∃ q, lastF c.lg = q := ⟨_, rfl⟩
 obtain ⟨b, hb0⟩ : ∃ q, c.lg.b = q := ⟨_, rfl⟩
 obtain ⟨tm, htm⟩ : ∃ q, c.tm = q := ⟨_, rfl⟩
 rw [hb0, hcm, hla] at hk
 have hb1 : 0 ≤ b ∧ la ≤ 2199024255552 := by rw [← hb0, ← hla]; have h1 := hf.1; have h2 := hf.2.1; have h3 := hf.2.2; refine ⟨h1, ?_⟩; unfold lastF; omega
 rw [hla, hcm]
 obtain ⟨P, hP⟩ : ∃ q : Int → Bool, cmtP c = q := ⟨_, rfl⟩
 have hPx : Hid (∀ i, P i = (decide ((termF c.lg i).1 = tm) && coJ j (hasC c i))) := fun i => by rw [← hP]; unfold cmtP; rw [hc, ← htm]
 rw [hP]
 clear hP hf hj hc
 have hmx : max cm b = cm := by omega
 have hmi : (if cm < b then b else cm) = cm := by split <;> omega
 replace hcm := Lib.hid hcm
 replace hla := Lib.hid hla
 replace hb0 := Lib.hid hb0
 replace htm := Lib.hid htm
 replace hk := Lib.hid hk
 replace hb1 := Lib.hid hb1
 have R0 := hR.more hB
 clear hR hB
 go_enter Tryz.func141, Tryz.ntmps141
 go_wp2_with (first | refine box_C rfl _ rfl c (.slice A n p) rfl ?_ | fail)
 intro y1 kC e1 s1
 clear s1
 have HB := e1
 replace R0 := R0.on e1 e1.size
 clear e1
 go_wp2_with (first | refine box_J rfl _ rfl j rfl ?_ | (first | refine lo_Cj kC ?_ | refine lo_cLj kC ?_ | refine lo_cJj kC ?_))
 intro y2 kJ e2 s2
 clear s2
 replace HB := bt HB e2
 replace kC := kC.b e2
 replace R0 := R0.on e2 e2.size
 clear e2
 generalize y1.heap.size = gkJ at *
 go_wp2_with (first | refine lo_Cj kC ?_ | refine lo_cLj kC ?_ | refine lo_cJj kC ?_ | refine lo_Jj kJ ?_)
 have CC := enti.last_any c.lg A n p y2 hlen.out HF.out
 rw [hla.out] at CC
 refine (CC).mono ?_
 rintro e y3 ⟨rfl, hY⟩
 replace HB := bt HB hY
 replace kC := kC.b hY
 replace kJ := kJ.b hY
 replace R0 := R0.on hY hY.size
 clear hY
 clear CC
 have BkC := Lib.hid kC
 clear kC
 have BkJ := Lib.hid kJ
 clear kJ
 have BR0 := Lib.hid R0
 clear R0
 have BH := Lib.hid HB
 clear HB
 have ccm : y3.cell? ⟨w.heap.size, 6, none⟩ = some (.int .i64 cm) := by rw [← hcm.out]; exact BkC.out.cell 6
 have cb : y3.cell? ⟨w.heap.size, 8, none⟩ = some (.int .i64 b) := by rw [← hb0.out]; exact BkC.out.cell 8
 go_wp2_with fail
 go_loopw [5] (fun iv wr => ∃ i : Int, cm ≤ i ∧ i ≤ la ∧ iv = .int .i64 i ∧ Hid (Below y3.heap.size y3 wr) ∧ Hid (seekF P cm (la - cm).toNat = seekF P cm (i - cm).toNat)) (fun iv _ => (intOf iv - cm).toNat)
 case atStart => exact ⟨la, hk.out.2, by omega, rfl, Lib.hid (Below.refl _ _), Lib.hid rfl⟩
 case round =>
   obtain ⟨i, hi1, hi2, rfl, HY, HS⟩ := hrel
   clear ccm cb
   by_cases hgt : cm < i
   · skip
     have kC := BkC.out.below HY.out BkC.out.lt
     have kJ := BkJ.out.below HY.out BkJ.out.lt
     have R0 := BR0.out.on HY.out HY.out.size
     have HB := HY.out
     obtain ⟨k, hk1⟩ : ∃ k : Nat, i = cm + ((k + 1 : Nat) : Int) := ⟨(i - cm - 1).toNat, by omega⟩
     have HS2 : Hid (seekF P cm (la - cm).toNat = seekF P cm (k + 1)) := by show _ = _; rw [HS.out, hk1]; congr 1; omega
     clear HS
     have hi64 := Lib.hid (show -1 ≤ i ∧ i ≤ 2199024255552 from ⟨by have := hb1.out; have := hk.out; omega, by have := hb1.out; omega⟩)
     replace hk1 := Lib.hid hk1
     have hig : i > cm := hgt
     have wi : IntKind.i64.wrap (i - 1) = i - 1 := by have := hi64.out; rw [wrap_sm (by omega) (by omega)]
     have ccm : wr.cell? ⟨w.heap.size, 6, none⟩ = some (.int .i64 cm) := by rw [← hcm.out]; exact kC.cell 6
     have cb : wr.cell? ⟨w.heap.size, 8, none⟩ = some (.int .i64 b) := by rw [← hb0.out]; exact kC.cell 8
     go_wp2_with (first | refine lo_Cj kC ?_ | refine lo_cLj kC ?_ | refine lo_cJj kC ?_ | refine lo_Jj kJ ?_)
     obtain ⟨tv, htv⟩ : ∃ q, (termF c.lg i).1 = q := ⟨_, rfl⟩
     obtain ⟨tb, htb⟩ : ∃ q, (termF c.lg i).2 = q := ⟨_, rfl⟩
     have CC := enti.term_any c.lg A n p i wr wr.heap.size R0 (Nat.le_refl _) hp HF.out
     rw [htv, htb] at CC
     replace htv := Lib.hid htv
     clear htb
     refine (CC).mono ?_
     rintro e y51 ⟨rfl, hY⟩
     replace HB := bt HB hY
     replace kC := kC.b hY
     replace kJ := kJ.b hY
     replace R0 := R0.on hY hY.size
     clear hY
     clear CC ccm cb
     by_cases he : tv = tm
     · skip
       have hbe : (tv == tm) = true := by simp [he]
       replace he := Lib.hid he
       go_upto_region 5 with (first | refine lo_Cj kC ?_ | refine lo_cLj kC ?_ | refine lo_cJj kC ?_ | refine lo_Jj kJ ?_)
       obtain ⟨co, hcoz⟩ : ∃ q, coJ j (hasC c i) = q := ⟨_, rfl⟩
       replace hcoz := Lib.hid hcoz
       have hPi : Hid (P i = co) := by show _ = _; rw [hPx.out, htv.out, he.out, hcoz.out, decide_eq_true rfl, Bool.true_and]
       refine wp_region_held_drew (S := fun wq => Blk 33 wq w.heap.size (crC c (.slice A n p)) ∧ Blk 27 wq gkJ (jC j) ∧ wq.cell? ⟨w.heap.size, 2, none⟩ = some (.int .i64 tm)) (by kernel_rfl) ?s_cmt5a (fun hHeld => ?_)
       case s_cmt5a => exact ⟨kC, kJ, by rw [← htm.out]; exact kC.cell 2⟩
       have hD := (Below.refl y51.heap.size y51).drew
       replace HB := bt HB hD
       replace kC := kC.b hD
       replace kJ := kJ.b hD
       replace R0 := R0.on hD hD.size
       clear hD
       generalize y51.drew = y52 at *
       refine tj 0 _ ?_
       try simp only [Act.put, ka, kb, kc]
       refine tj 1 _ ?_
       try simp only [Act.put, ka, kb, kc]
       refine tj 2 _ ?_
       try simp only [Act.put, ka, kb, kc]
       refine tj 3 _ ?_
       try simp only [Act.put, ka, kb, kc]
       refine tj 4 _ ?_
       try simp only [Act.put, ka, kb, kc]
       refine tj 5 _ ?_ (hy := fun wq hSw => rld_J rfl rfl (And.left <| And.right hSw))
       try simp only [Act.put, ka, kb, kc]
       refine tj 6 _ ?_ (hy := fun wq hSw => rld_C rfl rfl (And.left hSw))
       try simp only [Act.put, ka, kb, kc]
       refine tj 7 _ ?_
       try simp only [Act.put, ka, kb, kc]
       refine rr [8] ?_
       refine rc (fun KQ hKQ => ?_) AllReadyH.nil
       go_simp
       have CC := holders_any c A n p i y52
       refine (CC).mono ?_
       rintro e y53 ⟨rfl, hY⟩
       replace HB := bt HB hY
       replace kC := kC.b hY
       replace kJ := kJ.b hY
       replace R0 := R0.on hY hY.size
       clear hY
       clear CC
       go_wp2_with fail
       refine hKQ.out _ _ (⟨kC, kJ, by rw [← htm.out]; exact kC.cell 2⟩) (fun _ => ?_)
       clear hKQ KQ
       try simp only [Act.put, ka, kb, kc]
       refine rr [9] ?_
       refine rc (fun KQ hKQ => ?_) AllReadyH.nil
       go_simp
       have CC := confi.commits_any j (hasC c i) y53 HJ.out (ref13.has_lt c i 9)
       rw [hcoz.out] at CC
       refine (CC).mono ?_
       rintro e y54 ⟨rfl, hY⟩
       replace HB := bt HB hY
       replace kC := kC.b hY
       replace kJ := kJ.b hY
       replace R0 := R0.on hY hY.size
       clear hY
       clear CC
       go_wp2_with fail
       refine hKQ.out _ _ (⟨kC, kJ, by rw [← htm.out]; exact kC.cell 2⟩) (fun _ => ?_)
       clear hKQ KQ
       try simp only [Act.put, ka, kb, kc]
       refine tj 10 _ ?_
       try simp only [Act.put, ka, kb, kc]
       refine wpAnyH_done (by kernel_rfl) ?_ _
       rcases co with _ | _
       · skip
         go_wp2_with fail
         go_roundw
         case rel => exact ⟨i - 1, by omega, by omega, rfl, Lib.hid HB, Lib.hid (by rw [HS2.out, ref13.seek_top P cm k (by rw [← hk1.out]; exact hPi.out)]; congr 1; have := hk1.out; omega)⟩
         case measure => simp only [intOf]; omega
       · skip
         go_wp2_with fail
         go_ret
         rw [HS2.out, ref13.seek_hit P cm k (by rw [← hk1.out]; exact hPi.out), ← hk1.out]
         exact ⟨rfl, BH.out.trans (HB.mono BH.out.size)⟩
     · skip
       have hbe : (tv == tm) = false := by simp [he]
       have hPi : Hid (P i = false) := by show _ = _; rw [hPx.out, htv.out, decide_eq_false he, Bool.false_and]
       replace he := Lib.hid he
       go_upto_region 5 with (first | refine lo_Cj kC ?_ | refine lo_cLj kC ?_ | refine lo_cJj kC ?_ | refine lo_Jj kJ ?_)
       refine wp_region_held_drew (S := fun wq => Blk 33 wq w.heap.size (crC c (.slice A n p)) ∧ Blk 27 wq gkJ (jC j) ∧ wq.cell? ⟨w.heap.size, 2, none⟩ = some (.int .i64 tm)) (by kernel_rfl) ?s_cmt5b (fun hHeld => ?_)
       case s_cmt5b => exact ⟨kC, kJ, by rw [← htm.out]; exact kC.cell 2⟩
       have hD := (Below.refl y51.heap.size y51).drew
       replace HB := bt HB hD
       replace kC := kC.b hD
       replace kJ := kJ.b hD
       replace R0 := R0.on hD hD.size
       clear hD
       generalize y51.drew = y52 at *
       refine tj 0 _ ?_
       try simp only [Act.put, ka, kb, kc]
       refine tj 1 _ ?_
       try simp only [Act.put, ka, kb, kc]
       refine tj 2 _ ?_
       try simp only [Act.put, ka, kb, kc]
       refine tj 3 _ ?_
       try simp only [Act.put, ka, kb, kc]
       refine tj 4 _ ?_
       try simp only [Act.put, ka, kb, kc]
       refine kit.tv 5 ?_
       try simp only [Act.put, ka, kb, kc]
       refine kit.tv 6 ?_
       try simp only [Act.put, ka, kb, kc]
       refine kit.tv 7 ?_
       try simp only [Act.put, ka, kb, kc]
       refine kit.tv 8 ?_
       try simp only [Act.put, ka, kb, kc]
       refine kit.tv 9 ?_
       try simp only [Act.put, ka, kb, kc]
       refine tj 10 _ ?_
       try simp only [Act.put, ka, kb, kc]
       refine wpAnyH_done (by kernel_rfl) ?_ _
       go_wp2_with fail
       go_roundw
       case rel => exact ⟨i - 1, by omega, by omega, rfl, Lib.hid HB, Lib.hid (by rw [HS2.out, ref13.seek_top P cm k (by rw [← hk1.out]; exact hPi.out)]; congr 1; have := hk1.out; omega)⟩
       case measure => simp only [intOf]; omega
   · skip
     have kC := BkC.out.below HY.out BkC.out.lt
     have kJ := BkJ.out.below HY.out BkJ.out.lt
     have R0 := BR0.out.on HY.out HY.out.size
     have HB := HY.out
     obtain rfl : i = cm := by omega
     have hig : ¬ (i > i) := by omega
     have HS2 : Hid (seekF P i (la - i).toNat = i) := by show _ = _; rw [HS.out, Int.sub_self]; rfl
     clear HS
     have ccm : wr.cell? ⟨w.heap.size, 6, none⟩ = some (.int .i64 i) := by rw [← hcm.out]; exact kC.cell 6
     have cb : wr.cell? ⟨w.heap.size, 8, none⟩ = some (.int .i64 b) := by rw [← hb0.out]; exact kC.cell 8
     go_wp2_with fail
     go_ret
     rw [HS2.out]
     exact ⟨rfl, BH.out.trans (HB.mono BH.out.size)⟩
end Go.Proofs.YtegnfkbmlalkeaaGreat.cor
namespace Go.Proofs.YtegnfkbmlalkeaaGreat.cor
open Go Go.RowKit Go.Proofs.YtegnfkbmlalkeaaGreat.kit Go.Proofs.YtegnfkbmlalkeaaGreat.nums Go.Proofs.YtegnfkbmlalkeaaGreat.cf Go.Proofs.YtegnfkbmlalkeaaGreat.lg Go.Proofs.YtegnfkbmlalkeaaGreat.cr Go.Proofs.YtegnfkbmlalkeaaGreat.se
set_option linter.unusedVariables false
theorem cno_hit {b : Int} {es : List EnL} {k : Nat} {x : EnL} (hx : es[k]? = some x) (h : x.k = 2) : cnoL b es (k + 1) = b + 1 + (k : Int) := by
 show (if (es[k]?).map (·.k) = some 2 then b + 1 + (k : Int) else cnoL b es k) = _
 rw [hx]; exact if_pos (by rw [Option.map_some, h])
theorem cno_miss {b : Int} {es : List EnL} {k : Nat} {x : EnL} (hx : es[k]? = some x) (h : ¬ x.k = 2) : cnoL b es (k + 1) = cnoL b es k := by
 show (if (es[k]?).map (·.k) = some 2 then b + 1 + (k : Int) else cnoL b es k) = _
 rw [hx]; exact if_neg (by rw [Option.map_some]; intro e; exact h (Option.some.inj e))
set_option maxHeartbeats 2000000 in
set_option maxRecDepth 10000 in
theorem confAt_any (L : LgL) (A : Option Addr) (n p : Nat) (w : World) (B : Nat) (hR : RdE w B A n L.es) (hB : B ≤ w.heap.size) (hf : Fit L) : Calls Tryz.prog 143 #[lgV L (.slice A n p)] w fun e w' => e = .returned (.int .i64 (cnoF L)) ∧ Below w.heap.size w w' := by
 have R0 := hR.more hB
 have HF := Lib.hid hf
 have hlen := Lib.hid hR.len
 have hn2 : n ≤ 1000000 := by rw [← hlen.out]; exact hf.2.2
 replace hn2 := Lib.hid hn2
 clear hR hB hf
 obtain ⟨b, hb0⟩ : ∃ q, L.b = q := ⟨_, rfl⟩
 have hb1 : 0 ≤ b ∧ b ≤ 2199023255552 := by rw [← hb0]; exact ⟨HF.out.1, HF.out.2.1⟩
 replace hb0 := Lib.hid hb0
 replace hb1 := Lib.hid hb1
 go_enter Tryz.func143, Tryz.ntmps143
 go_wp2_with (first | refine box_L rfl _ rfl L (.slice A n p) rfl ?_ | fail)
 intro y1 kL e1 s1
 clear s1
 have HB := e1
 replace R0 := R0.on e1 e1.size
 clear e1
 have w1 : IntKind.i64.wrap ((n : Int) - 1) = (n : Int) - 1 := by have := hn2.out; rw [wrap_sm (by omega) (by omega)]
 have c13 : _ = some (Value.slice A n p) := kL.cell 13
 have BkL := Lib.hid kL
 clear kL
 have BR0 := Lib.hid R0
 clear R0
 have BH := Lib.hid HB
 clear HB
 go_wp2_with fail
 go_loopw [3] (fun iv wr => ∃ i : Int, -1 ≤ i ∧ i < n ∧ iv = .int .i64 i ∧ Hid (Below y1.heap.size y1 wr) ∧ Hid (cnoF L = cnoL L.b L.es (i + 1).toNat)) (fun iv _ => (intOf iv + 1).toNat)
 case atStart => exact ⟨(n : Int) - 1, by omega, by omega, rfl, Lib.hid (Below.refl _ _), Lib.hid (by unfold cnoF; rw [show ((n : Int) - 1 + 1).toNat = L.es.length by rw [hlen.out]; omega])⟩
 case round =>
   obtain ⟨i, hi1, hin, rfl, HY, HC⟩ := hrel
   clear c13 w1
   by_cases hi0 : 0 ≤ i
   · skip
     have kL := BkL.out.below HY.out BkL.out.lt
     have R0 := BR0.out.on HY.out HY.out.size
     have HB := HY.out
     obtain ⟨k, rfl⟩ : ∃ k : Nat, i = (k : Int) := ⟨i.toNat, by omega⟩
     have hkn : k < n := by omega
     obtain ⟨bb, oo, x, hA9, hlt9, hx, hA⟩ := R0.at_ hkn
     subst hA9
     have c13 : wr.cell? ⟨w.heap.size, 13, none⟩ = some (.slice (some ⟨bb, oo, none⟩) n p) := kL.cell 13
     have cge : (k : Int) ≥ 0 := hi0
     have ck : (k : Int) < (n : Int) := hin
     obtain ⟨xk, hxk⟩ : ∃ q, x.k = q := ⟨_, rfl⟩
     have ck1 : wr.cell? ⟨bb, oo + k * 14 + 1, none⟩ = some (.int .i64 xk) := by rw [← hxk]; exact hA 1 _ rfl
     have HC2 : cnoF L = cnoL L.b L.es (k + 1) := HC.out
     replace HC2 := Lib.hid HC2
     replace hx := Lib.hid hx
     replace hxk := Lib.hid hxk
     clear HC hA
     by_cases hk2 : xk = 2
     · skip
       have hb2 : (xk == 2) = true := by simp [hk2]
       have hE := Lib.hid (cno_hit (b := L.b) hx.out (hxk.out.trans hk2))
       replace hk2 := Lib.hid hk2
       have cb : wr.cell? ⟨w.heap.size, 0, none⟩ = some (.int .i64 b) := by rw [← hb0.out]; exact kL.cell 0
       have w2 : IntKind.i64.wrap (b + 1) = b + 1 := by have := hb1.out; rw [wrap_sm (by omega) (by omega)]
       have w3 : IntKind.i64.wrap (b + 1 + (k : Int)) = b + 1 + (k : Int) := by have := hb1.out; have := hn2.out; rw [wrap_sm (by omega) (by omega)]
       go_wp2_with fail
       go_ret
       rw [HC2.out, hE.out, hb0.out]
       exact ⟨rfl, BH.out.trans (HB.mono BH.out.size)⟩
     · skip
       have hb2 : (xk == 2) = false := by simp [hk2]
       have hE := Lib.hid (cno_miss (b := L.b) hx.out (fun e => hk2 (hxk.out.symm.trans e)))
       replace hk2 := Lib.hid hk2
       have wk : IntKind.i64.wrap ((k : Int) - 1) = (k : Int) - 1 := by have := hn2.out; rw [wrap_sm (by omega) (by omega)]
       go_wp2_with fail
       go_roundw
       case rel => exact ⟨(k : Int) - 1, by omega, by omega, rfl, Lib.hid HB, Lib.hid (by rw [HC2.out, hE.out, show ((k : Int) - 1 + 1).toNat = k by omega])⟩
       case measure => simp only [intOf]; omega
   · skip
     have kL := BkL.out.below HY.out BkL.out.lt
     have R0 := BR0.out.on HY.out HY.out.size
     have HB := HY.out
     obtain rfl : i = -1 := by omega
     have cge : ¬ ((-1 : Int) ≥ 0) := by omega
     have HC2 : cnoF L = L.b := HC.out
     replace HC2 := Lib.hid HC2
     clear HC
     have cb : wr.cell? ⟨w.heap.size, 0, none⟩ = some (.int .i64 b) := by rw [← hb0.out]; exact kL.cell 0
     go_wp2_with fail
     go_ret
     rw [HC2.out, hb0.out]
     exact ⟨rfl, BH.out.trans (HB.mono BH.out.size)⟩
end Go.Proofs.YtegnfkbmlalkeaaGreat.cor
namespace Go.Proofs.YtegnfkbmlalkeaaGreat.enti
open Go Go.RowKit Go.Proofs.YtegnfkbmlalkeaaGreat.kit Go.Proofs.YtegnfkbmlalkeaaGreat.nums Go.Proofs.YtegnfkbmlalkeaaGreat.cf Go.Proofs.YtegnfkbmlalkeaaGreat.lg
set_option linter.unusedVariables false
set_option maxHeartbeats 2000000 in
theorem newer_any (L : LgL) (A : Option Addr) (n c : Nat) (last term : Int) (w : World) (B : Nat) (hR : RdE w B A n L.es) (hB : B ≤ w.heap.size) (hc : n ≤ c) (hf : Fit L) : Calls Tryz.prog 126 #[lgV L (.slice A n c), .int .i64 last, .int .i64 term] w fun e w' => e = .returned (.bool (newerF L last term)) ∧ Below w.heap.size w w' := by
 have HR := Lib.hid hR
 have hl := hR.1
 have HF := Lib.hid hf
 have hBs := Lib.hid hB
 have hlast : lastF L = L.b + n := by unfold lastF; rw [hl]
 unfold newerF
 rw [hlast]
 clear hR hB hl hf
 unfold lgV at *
 obtain ⟨b, t, j, es⟩ := L
 dsimp only at *
 have HT : Hid (∀ x, termF ⟨b, t, j, es⟩ (b + (n : Int)) = x → termF ⟨b, t, j, es⟩ (b + (n : Int)) = x) := fun x h => h
 generalize hTT : termF ⟨b, t, j, es⟩ (b + (n : Int)) = TT at *
 obtain ⟨tv, tb⟩ := TT
 dsimp only
 have k0 : Blk 30 (w.alloc (.cells #[.int .i64 b, .int .i64 t, j0 j, j1 j, j2 j, j3 j, j4 j, j5 j, j6 j, j7 j, j8 j, j9 j, j10 j, .slice A n c] 30)) w.heap.size [.int .i64 b, .int .i64 t, j0 j, j1 j, j2 j, j3 j, j4 j, j5 j, j6 j, j7 j, j8 j, j9 j, j10 j, .slice A n c] := (heap_alloc_new w (.cells #[.int .i64 b, .int .i64 t, j0 j, j1 j, j2 j, j3 j, j4 j, j5 j, j6 j, j7 j, j8 j, j9 j, j10 j, .slice A n c] 30))
 have hB : Below w.heap.size w (w.alloc (.cells #[.int .i64 b, .int .i64 t, j0 j, j1 j, j2 j, j3 j, j4 j, j5 j, j6 j, j7 j, j8 j, j9 j, j10 j, .slice A n c] 30)) := ((Below.refl w.heap.size w).alloc (by first | exact Nat.le_refl _ | simp) (.cells #[.int .i64 b, .int .i64 t, j0 j, j1 j, j2 j, j3 j, j4 j, j5 j, j6 j, j7 j, j8 j, j9 j, j10 j, .slice A n c] 30))
 have HB := Lib.hid hB
 have HS : Hid (∀ wq, Below (w.alloc (.cells #[.int .i64 b, .int .i64 t, j0 j, j1 j, j2 j, j3 j, j4 j, j5 j, j6 j, j7 j, j8 j, j9 j, j10 j, .slice A n c] 30)).heap.size (w.alloc (.cells #[.int .i64 b, .int .i64 t, j0 j, j1 j, j2 j, j3 j, j4 j, j5 j, j6 j, j7 j, j8 j, j9 j, j10 j, .slice A n c] 30)) wq → (wq.cell? ⟨w.heap.size, 0, none⟩ = some (.int .i64 b) ∧ wq.cell? ⟨w.heap.size, 1, none⟩ = some (.int .i64 t) ∧ wq.cell? ⟨w.heap.size, 2, none⟩ = some (j0 j) ∧ wq.cell? ⟨w.heap.size, 3, none⟩ = some (j1 j) ∧ wq.cell? ⟨w.heap.size, 4, none⟩ = some (j2 j) ∧ wq.cell? ⟨w.heap.size, 5, none⟩ = some (j3 j) ∧ wq.cell? ⟨w.heap.size, 6, none⟩ = some (j4 j) ∧ wq.cell? ⟨w.heap.size, 7, none⟩ = some (j5 j) ∧ wq.cell? ⟨w.heap.size, 8, none⟩ = some (j6 j) ∧ wq.cell? ⟨w.heap.size, 9, none⟩ = some (j7 j) ∧ wq.cell? ⟨w.heap.size, 10, none⟩ = some (j8 j) ∧ wq.cell? ⟨w.heap.size, 11, none⟩ = some (j9 j) ∧ wq.cell? ⟨w.heap.size, 12, none⟩ = some (j10 j) ∧ wq.cell? ⟨w.heap.size, 13, none⟩ = some (.slice A n c))) := fun wq hq => blk14 (k0.below hq k0.lt)
 have q0 := Below.refl (w.alloc (.cells #[.int .i64 b, .int .i64 t, j0 j, j1 j, j2 j, j3 j, j4 j, j5 j, j6 j, j7 j, j8 j, j9 j, j10 j, .slice A n c] 30)).heap.size (w.alloc (.cells #[.int .i64 b, .int .i64 t, j0 j, j1 j, j2 j, j3 j, j4 j, j5 j, j6 j, j7 j, j8 j, j9 j, j10 j, .slice A n c] 30))
 have K0 := Lib.hid k0
 clear hB k0
 by_cases c1 : term = tv
 · rw [if_pos c1]
   go_enter Tryz.func126, Tryz.ntmps126
   go_upto_region 1 with (fail)
   generalize (w.alloc (.cells #[.int .i64 b, .int .i64 t, j0 j, j1 j, j2 j, j3 j, j4 j, j5 j, j6 j, j7 j, j8 j, j9 j, j10 j, .slice A n c] 30)) = w1 at *
   have HR1 := Lib.hid (HR.out.on (HB.out.mono hBs.out) (Nat.le_trans hBs.out HB.out.size))
   have CL := Lib.hid (fun w' (hb : Below w1.heap.size w1 w') => last_any ⟨b, t, j, es⟩ A n c w' HR1.out.1 HF.out)
   have CT := Lib.hid (fun w' (hb : Below w1.heap.size w1 w') => term_any ⟨b, t, j, es⟩ A n c (b + (n : Int)) w' w1.heap.size (HR1.out.below hb) hb.size hc HF.out)
   unfold lgV at CL CT
   dsimp only at CL CT
   rw [hlast] at CL
   rw [hTT] at CT
   clear hTT HT hlast
   have r0 := HS.out _ q0
   have q1 := q0.drew
   refine wp_region_held_drew (S := fun wq => (wq.cell? ⟨w.heap.size, 0, none⟩ = some (.int .i64 b) ∧ wq.cell? ⟨w.heap.size, 1, none⟩ = some (.int .i64 t) ∧ wq.cell? ⟨w.heap.size, 2, none⟩ = some (j0 j) ∧ wq.cell? ⟨w.heap.size, 3, none⟩ = some (j1 j) ∧ wq.cell? ⟨w.heap.size, 4, none⟩ = some (j2 j) ∧ wq.cell? ⟨w.heap.size, 5, none⟩ = some (j3 j) ∧ wq.cell? ⟨w.heap.size, 6, none⟩ = some (j4 j) ∧ wq.cell? ⟨w.heap.size, 7, none⟩ = some (j5 j) ∧ wq.cell? ⟨w.heap.size, 8, none⟩ = some (j6 j) ∧ wq.cell? ⟨w.heap.size, 9, none⟩ = some (j7 j) ∧ wq.cell? ⟨w.heap.size, 10, none⟩ = some (j8 j) ∧ wq.cell? ⟨w.heap.size, 11, none⟩ = some (j9 j) ∧ wq.cell? ⟨w.heap.size, 12, none⟩ = some (j10 j) ∧ wq.cell? ⟨w.heap.size, 13, none⟩ = some (.slice A n c))) (by kernel_rfl) ?s_lnewer0 (fun hHeld => ?_)
   case s_lnewer0 => exact HS.out _ q1
   refine tj 0 _ ?_
   try simp only [Act.put, ka, kb, kc]
   refine tj 1 _ ?_
   try simp only [Act.put, ka, kb, kc]
   refine rr [2] ?_
   refine rc (fun KQ hKQ => ?_) AllReadyH.nil
   go_simp
   refine (CL.out _ q1).mono ?_
   rintro e y2 ⟨rfl, hY2⟩
   have q2 := q1.trans (hY2.mono q1.size)
   have r2 := HS.out _ q2
   go_wp2_with fail
   refine hKQ.out _ _ (r2) (fun _ => ?_)
   clear hKQ KQ
   try simp only [Act.put, ka, kb, kc]
   refine rr [3] ?_
   refine rc (fun KQ hKQ => ?_) AllReadyH.nil
   go_simp
   refine (CT.out _ q2).mono ?_
   rintro e y3 ⟨rfl, hY3⟩
   have q3 := q2.trans (hY3.mono q2.size)
   have r3 := HS.out _ q3
   go_wp2_with fail
   refine hKQ.out _ _ (r3) (fun _ => ?_)
   clear hKQ KQ
   try simp only [Act.put, ka, kb, kc]
   refine tj 4 _ ?_
   try simp only [Act.put, ka, kb, kc]
   refine tj 5 _ ?_
   try simp only [Act.put, ka, kb, kc]
   refine tj 6 _ ?_
   try simp only [Act.put, ka, kb, kc]
   refine tj 7 _ ?_
   try simp only [Act.put, ka, kb, kc]
   refine tj 8 _ ?_
   try simp only [Act.put, ka, kb, kc]
   refine wpAnyH_done (by kernel_rfl) ?_ _
   go_wp2_with fail
   refine (CL.out _ q3).mono ?_
   rintro e y4 ⟨rfl, hY4⟩
   have q4 := q3.trans (hY4.mono q3.size)
   clear r3
   have r4 := HS.out _ q4
   go_wp2_with fail
   go_ret
   exact ⟨by first | rfl | simp, HB.out.trans (q4.mono HB.out.size)⟩
 · rw [if_neg c1]
   go_enter Tryz.func126, Tryz.ntmps126
   go_upto_region 1 with (fail)
   generalize (w.alloc (.cells #[.int .i64 b, .int .i64 t, j0 j, j1 j, j2 j, j3 j, j4 j, j5 j, j6 j, j7 j, j8 j, j9 j, j10 j, .slice A n c] 30)) = w1 at *
   have HR1 := Lib.hid (HR.out.on (HB.out.mono hBs.out) (Nat.le_trans hBs.out HB.out.size))
   have CL := Lib.hid (fun w' (hb : Below w1.heap.size w1 w') => last_any ⟨b, t, j, es⟩ A n c w' HR1.out.1 HF.out)
   have CT := Lib.hid (fun w' (hb : Below w1.heap.size w1 w') => term_any ⟨b, t, j, es⟩ A n c (b + (n : Int)) w' w1.heap.size (HR1.out.below hb) hb.size hc HF.out)
   unfold lgV at CL CT
   dsimp only at CL CT
   rw [hlast] at CL
   rw [hTT] at CT
   clear hTT HT hlast
   have r0 := HS.out _ q0
   have c1b : (term == tv) = false := by simpa using c1
   have q1 := q0.drew
   refine wp_region_held_drew (S := fun wq => (wq.cell? ⟨w.heap.size, 0, none⟩ = some (.int .i64 b) ∧ wq.cell? ⟨w.heap.size, 1, none⟩ = some (.int .i64 t) ∧ wq.cell? ⟨w.heap.size, 2, none⟩ = some (j0 j) ∧ wq.cell? ⟨w.heap.size, 3, none⟩ = some (j1 j) ∧ wq.cell? ⟨w.heap.size, 4, none⟩ = some (j2 j) ∧ wq.cell? ⟨w.heap.size, 5, none⟩ = some (j3 j) ∧ wq.cell? ⟨w.heap.size, 6, none⟩ = some (j4 j) ∧ wq.cell? ⟨w.heap.size, 7, none⟩ = some (j5 j) ∧ wq.cell? ⟨w.heap.size, 8, none⟩ = some (j6 j) ∧ wq.cell? ⟨w.heap.size, 9, none⟩ = some (j7 j) ∧ wq.cell? ⟨w.heap.size, 10, none⟩ = some (j8 j) ∧ wq.cell? ⟨w.heap.size, 11, none⟩ = some (j9 j) ∧ wq.cell? ⟨w.heap.size, 12, none⟩ = some (j10 j) ∧ wq.cell? ⟨w.heap.size, 13, none⟩ = some (.slice A n c))) (by kernel_rfl) ?s_lnewer1 (fun hHeld => ?_)
   case s_lnewer1 => exact HS.out _ q1
   refine tj 0 _ ?_
   try simp only [Act.put, ka, kb, kc]
   refine tj 1 _ ?_
   try simp only [Act.put, ka, kb, kc]
   refine rr [2] ?_
   refine rc (fun KQ hKQ => ?_) AllReadyH.nil
   go_simp
   refine (CL.out _ q1).mono ?_
   rintro e y2 ⟨rfl, hY2⟩
   have q2 := q1.trans (hY2.mono q1.size)
   have r2 := HS.out _ q2
   go_wp2_with fail
   refine hKQ.out _ _ (r2) (fun _ => ?_)
   clear hKQ KQ
   try simp only [Act.put, ka, kb, kc]
   refine rr [3] ?_
   refine rc (fun KQ hKQ => ?_) AllReadyH.nil
   go_simp
   refine (CT.out _ q2).mono ?_
   rintro e y3 ⟨rfl, hY3⟩
   have q3 := q2.trans (hY3.mono q2.size)
   have r3 := HS.out _ q3
   go_wp2_with fail
   refine hKQ.out _ _ (r3) (fun _ => ?_)
   clear hKQ KQ
   try simp only [Act.put, ka, kb, kc]
   refine tj 4 _ ?_
   try simp only [Act.put, ka, kb, kc]
   refine tj 5 _ ?_
   try simp only [Act.put, ka, kb, kc]
   refine tj 6 _ ?_
   try simp only [Act.put, ka, kb, kc]
   refine tj 7 _ ?_
   try simp only [Act.put, ka, kb, kc]
   refine tj 8 _ ?_
   try simp only [Act.put, ka, kb, kc]
   refine wpAnyH_done (by kernel_rfl) ?_ _
   go_wp2_with fail
   go_ret
   exact ⟨by first | rfl | simp, HB.out.trans (q3.mono HB.out.size)⟩
end Go.Proofs.YtegnfkbmlalkeaaGreat.enti
namespace Go.Proofs.YtegnfkbmlalkeaaGreat.cor
open Go Go.RowKit Go.Proofs.YtegnfkbmlalkeaaGreat.kit Go.Proofs.YtegnfkbmlalkeaaGreat.nums Go.Proofs.YtegnfkbmlalkeaaGreat.cf Go.Proofs.YtegnfkbmlalkeaaGreat.lg Go.Proofs.YtegnfkbmlalkeaaGreat.cr Go.Proofs.YtegnfkbmlalkeaaGreat.se
set_option linter.unusedVariables false
theorem bd_lj {w : World} {ops : Array Oper} {rest : List Oper} {o : Oper} {a : Act} {Q : Exit → Act → World → Prop} {q2 : Operand} (j : JtL) (ho : o.op = .build 30 #[(2, q2)]) (hw : Region.wanted o (yielded ops a.tmps) = true) (h2 : a.eval q2 = jV j)
   (h : wpList Tryz.prog ops Q rest (a.put o.dst (lgV { zL with j := j } (.slice none 0 0))) w) : wpList Tryz.prog ops Q (o :: rest) a w := by
 refine wpList_val hw ?_ h
 have hr : (Instr.build 30 #[(2, jV j)]).run Tryz.prog w = .ok (lgV { zL with j := j } (.slice none 0 0)) w := by kernel_rfl
 unfold execOp
 simp [ho, h2, hr]
theorem bd_new {w : World} {ops : Array Oper} {rest : List Oper} {o : Oper} {a : Act} {Q : Exit → Act → World → Prop} {q0 q8 : Operand} (id : Int) (j : JtL) (ho : o.op = .build 33 #[(0, q0), (8, q8)]) (hw : Region.wanted o (yielded ops a.tmps) = true) (h0 : a.eval q0 = .int .i64 id) (h8 : a.eval q8 = lgV { zL with j := j } (.slice none 0 0))
   (h : wpList Tryz.prog ops Q rest (a.put o.dst (crV (newC id j) (.slice none 0 0))) w) : wpList Tryz.prog ops Q (o :: rest) a w := by
 refine wpList_val hw ?_ h
 have hr : (Instr.build 33 #[(0, .int .i64 id), (8, lgV { zL with j := j } (.slice none 0 0))]).run Tryz.prog w = .ok (crV (newC id j) (.slice none 0 0)) w := by kernel_rfl
 unfold execOp
 simp [ho, h0, h8, hr]
set_option maxHeartbeats 2000000 in
set_option maxRecDepth 10000 in
theorem new_any (id : Int) (j : JtL) (w : World) : Calls Tryz.prog 38 #[.int .i64 id, jV j] w fun e w' => e = .returned (crV (newC id j) (.slice none 0 0)) ∧ Below w.heap.size w w' := by
 go_enter Tryz.func38, Tryz.ntmps38
 go_wp2_with (first | go_skip | refine box_J rfl _ rfl j rfl ?_ | fail)
 intro y1 kJ e1 s1
 clear s1
 have HB := e1
 clear e1
 have LTkJkO := Lib.hid kJ.lt
 have LEkO : Hid (w.heap.size ≤ y1.heap.size) := HB.size
 go_wp2_with (first | go_skip | refine al_C rfl rfl ?_ | (first | refine lo_Jj kJ ?_))
 intro y2 kO e2 s2
 clear s2
 replace kO : Blk _ _ _ (crC zC (.slice none 0 0)) := kO
 replace HB := bt HB e2
 replace kJ := kJ.b e2
 clear e2
 generalize y1.heap.size = gkO at *
 go_wp2_with (first | go_skip | refine st_C rfl _ _ rfl (newC id j) none 0 0 rfl rfl _ kO rfl ?_ | (first | refine lo_Jj kJ ?_ | refine lo_Cj kO ?_ | refine lo_cLj kO ?_ | refine lo_cJj kO ?_ | refine bd_lj j rfl rfl rfl ?_ | refine bd_new id j rfl rfl rfl rfl ?_))
 intro y3 kO2 pO
 replace kJ := kJ.put pO (Nat.ne_of_lt LTkJkO.out)
 replace HB := pO.below _ _ HB LEkO.out
 clear kO
 have kO := kO2
 clear kO2 pO
 go_wp2_with (first | go_skip | refine lo_Jj kJ ?_ | refine lo_Cj kO ?_ | refine lo_cLj kO ?_ | refine lo_cJj kO ?_)
 (try simp only [Exit.inBlock, Exit.then])
 refine bodyPost_ret (res1 Tryz.results38 rfl (aggC _) (sizeC _) (ldCv kO)) rfl ?_
 exact ⟨rfl, HB⟩
end Go.Proofs.YtegnfkbmlalkeaaGreat.cor
