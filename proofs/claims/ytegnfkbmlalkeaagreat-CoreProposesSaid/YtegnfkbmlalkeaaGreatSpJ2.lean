/- The document's entries: LastTerm, Newer. Conditions: the log's numbers stay far from the ends of an int. -/
import Derived.Deep.RegionHeld3
import Derived.Deep.Cut
import Derived.Lib.Hide
import Derived.Laws.StructEq
import Derived.Test.YtegnfkbmlalkeaaGreatSpEntB
import Derived.Test.YtegnfkbmlalkeaaGreatSpKitLg
import Derived.Test.YtegnfkbmlalkeaaGreatSpJ0
import Derived.Test.YtegnfkbmlalkeaaGreatSpRef10
import Derived.Test.YtegnfkbmlalkeaaGreatSpKitCo
import Derived.Test.YtegnfkbmlalkeaaGreatSpRefE12
set_option linter.unusedVariables false
set_option maxHeartbeats 16000000
set_option maxRecDepth 10000
namespace Go.Proofs.YtegnfkbmlalkeaaGreat.enti
open Go Go.RowKit kit nums cf lg
theorem term_any (L : LgL) (A : Option Addr) (n c : Nat) (i : Int) (w : World) (B : Nat) (hR : RdE w B A n L.es) (hB : B ≤ w.heap.size) (hc : n ≤ c) (hf : Fit L) : Calls Tryz.prog 106 #[lgV L (.slice A n c), .int .i64 i] w fun e w' => e = .returned (.tuple #[.int .i64 (termF L i).1, .bool (termF L i).2]) ∧ Below w.heap.size w w' := by
 have CA := Lh (fun (w' : World) (hb : Below w.heap.size w w') => at_any L A n c i w' w.heap.size ((hR.more hB).below hb) hb.size hc hf)
 have HT : Hid (termF L i = if i = L.b then (L.t, true) else ((atF L i).1.t, (atF L i).2)) := rfl
 rw [HT.out]
 clear HT hR hB hf
 generalize atF L i = RES at *
 obtain ⟨x, bl⟩ := RES
 unfold enV at CA
 unfold lgV at *
 obtain ⟨b, t, j, es⟩ := L
 dsimp only at *
 have k0 : Blk 30 (w.alloc (.cells #[.int .i64 b, .int .i64 t, j0 j, j1 j, j2 j, j3 j, j4 j, j5 j, j6 j, j7 j, j8 j, j9 j, j10 j, .slice A n c] 30)) w.heap.size [.int .i64 b, .int .i64 t, j0 j, j1 j, j2 j, j3 j, j4 j, j5 j, j6 j, j7 j, j8 j, j9 j, j10 j, .slice A n c] := (heap_alloc_new w (.cells #[.int .i64 b, .int .i64 t, j0 j, j1 j, j2 j, j3 j, j4 j, j5 j, j6 j, j7 j, j8 j, j9 j, j10 j, .slice A n c] 30))
 have hB : Below w.heap.size w (w.alloc (.cells #[.int .i64 b, .int .i64 t, j0 j, j1 j, j2 j, j3 j, j4 j, j5 j, j6 j, j7 j, j8 j, j9 j, j10 j, .slice A n c] 30)) := ((Below.refl w.heap.size w).alloc (by first | exact Nat.le_refl _ | simp) (.cells #[.int .i64 b, .int .i64 t, j0 j, j1 j, j2 j, j3 j, j4 j, j5 j, j6 j, j7 j, j8 j, j9 j, j10 j, .slice A n c] 30))
 have HB := Lh hB
 have HS : Hid (∀ wq, Below (w.alloc (.cells #[.int .i64 b, .int .i64 t, j0 j, j1 j, j2 j, j3 j, j4 j, j5 j, j6 j, j7 j, j8 j, j9 j, j10 j, .slice A n c] 30)).heap.size (w.alloc (.cells #[.int .i64 b, .int .i64 t, j0 j, j1 j, j2 j, j3 j, j4 j, j5 j, j6 j, j7 j, j8 j, j9 j, j10 j, .slice A n c] 30)) wq → (wq.cell? ⟨w.heap.size, 0, none⟩ = some (.int .i64 b) ∧ wq.cell? ⟨w.heap.size, 1, none⟩ = some (.int .i64 t) ∧ wq.cell? ⟨w.heap.size, 2, none⟩ = some (j0 j) ∧ wq.cell? ⟨w.heap.size, 3, none⟩ = some (j1 j) ∧ wq.cell? ⟨w.heap.size, 4, none⟩ = some (j2 j) ∧ wq.cell? ⟨w.heap.size, 5, none⟩ = some (j3 j) ∧ wq.cell? ⟨w.heap.size, 6, none⟩ = some (j4 j) ∧ wq.cell? ⟨w.heap.size, 7, none⟩ = some (j5 j) ∧ wq.cell? ⟨w.heap.size, 8, none⟩ = some (j6 j) ∧ wq.cell? ⟨w.heap.size, 9, none⟩ = some (j7 j) ∧ wq.cell? ⟨w.heap.size, 10, none⟩ = some (j8 j) ∧ wq.cell? ⟨w.heap.size, 11, none⟩ = some (j9 j) ∧ wq.cell? ⟨w.heap.size, 12, none⟩ = some (j10 j) ∧ wq.cell? ⟨w.heap.size, 13, none⟩ = some (.slice A n c))) := fun wq hq => blk14 (k0.below hq k0.lt)
 have q0 := Below.refl (w.alloc (.cells #[.int .i64 b, .int .i64 t, j0 j, j1 j, j2 j, j3 j, j4 j, j5 j, j6 j, j7 j, j8 j, j9 j, j10 j, .slice A n c] 30)).heap.size (w.alloc (.cells #[.int .i64 b, .int .i64 t, j0 j, j1 j, j2 j, j3 j, j4 j, j5 j, j6 j, j7 j, j8 j, j9 j, j10 j, .slice A n c] 30))
 have K0 := Lh k0
 clear hB k0
 by_cases h1 : i = b
 ·
  have h1 := h1.symm
  subst h1
  rw [if_pos rfl]
  go_enter Tryz.func106, Tryz.ntmps106
  go_upto_region 1 with (fail)
  generalize (w.alloc (.cells #[.int .i64 b, .int .i64 t, j0 j, j1 j, j2 j, j3 j, j4 j, j5 j, j6 j, j7 j, j8 j, j9 j, j10 j, .slice A n c] 30)) = w1 at *
  have r0 := HS.out _ q0
  go_wp2_with fail
  (try simp only [Exit.inBlock, Exit.then])
  refine bodyPost_ret (resT2 Tryz.results106 rfl rfl) rfl ?_
  exact ⟨rfl, HB.out⟩
 ·
  rw [if_neg h1]
  have h1 : (i == b) = false := by simpa using h1
  go_enter Tryz.func106, Tryz.ntmps106
  go_upto_region 1 with (fail)
  generalize (w.alloc (.cells #[.int .i64 b, .int .i64 t, j0 j, j1 j, j2 j, j3 j, j4 j, j5 j, j6 j, j7 j, j8 j, j9 j, j10 j, .slice A n c] 30)) = w1 at *
  have r0 := HS.out _ q0
  go_wp2_with fail
  refine (CA.out _ HB.out).mono ?_
  rintro e y1 ⟨rfl, hY1⟩
  have q1 := q0.trans (hY1.mono q0.size)
  clear r0
  go_upto_region 4 with (fail)
  have sF : Blk 52 (y1.alloc (.cells #[.int .i64 x.t, .int .i64 x.k, .string x.d, j0 x.j, j1 x.j, j2 x.j, j3 x.j, j4 x.j, j5 x.j, j6 x.j, j7 x.j, j8 x.j, j9 x.j, j10 x.j] 52)) y1.heap.size [.int .i64 x.t, .int .i64 x.k, .string x.d, j0 x.j, j1 x.j, j2 x.j, j3 x.j, j4 x.j, j5 x.j, j6 x.j, j7 x.j, j8 x.j, j9 x.j, j10 x.j] := heap_alloc_new y1 (.cells #[.int .i64 x.t, .int .i64 x.k, .string x.d, j0 x.j, j1 x.j, j2 x.j, j3 x.j, j4 x.j, j5 x.j, j6 x.j, j7 x.j, j8 x.j, j9 x.j, j10 x.j] 52)
  have bF := Below.alloc (HB.out.trans (q1.mono HB.out.size)) (Below.size (HB.out.trans (q1.mono HB.out.size))) (.cells #[.int .i64 x.t, .int .i64 x.k, .string x.d, j0 x.j, j1 x.j, j2 x.j, j3 x.j, j4 x.j, j5 x.j, j6 x.j, j7 x.j, j8 x.j, j9 x.j, j10 x.j] 52)
  generalize (y1.alloc (.cells #[.int .i64 x.t, .int .i64 x.k, .string x.d, j0 x.j, j1 x.j, j2 x.j, j3 x.j, j4 x.j, j5 x.j, j6 x.j, j7 x.j, j8 x.j, j9 x.j, j10 x.j] 52)) = wf at *
  have e0 := (blk14 sF).1
  clear sF
  go_wp2_with fail
  (try simp only [Exit.inBlock, Exit.then])
  refine bodyPost_ret (resT2 Tryz.results106 rfl rfl) rfl ?_
  exact ⟨rfl, bF⟩
end Go.Proofs.YtegnfkbmlalkeaaGreat.enti
namespace Go.Proofs.YtegnfkbmlalkeaaGreat.ref10
open Go Go.RowKit kit nums se cf
def twoL (j : JtL) : List CfL := if j.two then [j.a, j.b] else [j.a]
theorem two_len (j : JtL) : 1 ≤ (twoL j).length ∧ (twoL j).length ≤ 2 := by
 unfold twoL; split <;> simp
theorem two_ok {j : JtL} (h : j.ok) : ∀ c ∈ twoL j, c.ok := by
 unfold twoL
 intro c hc
 split at hc
 ·
  rcases List.mem_cons.1 hc with rfl | hc
  · exact h.1
  · rw [List.mem_singleton] at hc; subst hc; exact h.2
 · rw [List.mem_singleton] at hc; subst hc; exact h.1
theorem two_may {j : JtL} (h : mayJ j = true) : ∀ c ∈ twoL j, mayC c = true := by
 unfold twoL
 intro c hc
 split at hc <;> rename_i ht
 ·
  rcases List.mem_cons.1 hc with rfl | hc
  · exact mayJ_a h
  · rw [List.mem_singleton] at hc; subst hc; exact mayJ_b h ht
 · rw [List.mem_singleton] at hc; subst hc; exact mayJ_a h
theorem both_all (j : JtL) (P : CfL → Bool) : bothJ j P = (twoL j).all P := by
 unfold bothJ twoL
 cases j.two <;> simp
theorem all_bad {L : List CfL} {P : CfL → Bool} {c : CfL} {i : Nat} (h : L[i]? = some c) (hP : P c = false) : L.all P = false := by
 rw [List.all_eq_false]; exact ⟨c, List.mem_of_getElem? h, by simp [hP]⟩
theorem all_good {L : List CfL} {P : CfL → Bool} {k : Nat} (h : ∀ c ∈ L.take k, P c = true) (hk : L.length = k) : L.all P = true := by
 rw [List.all_eq_true]; intro c hc; exact h c (by rw [← hk, List.take_length]; exact hc)
theorem take_more {L : List CfL} {P : CfL → Bool} {c : CfL} {i : Nat} (h : ∀ c ∈ L.take i, P c = true) (hc : L[i]? = some c) (hP : P c = true) : ∀ c ∈ L.take (i + 1), P c = true := by
 obtain ⟨hi, rfl⟩ := List.getElem?_eq_some_iff.1 hc
 rw [List.take_succ_eq_append_getElem hi]
 intro x hx
 rcases List.mem_append.1 hx with hx | hx
 · exact h x hx
 · rw [List.mem_singleton] at hx; subst hx; exact hP
theorem fold_more {L : List CfL} (f : Nat → CfL → Nat) {c : CfL} {i : Nat} (hc : L[i]? = some c) : (L.take (i + 1)).foldl f 0 = f ((L.take i).foldl f 0) c := by
 obtain ⟨hi, rfl⟩ := List.getElem?_eq_some_iff.1 hc
 rw [List.take_succ_eq_append_getElem hi, List.foldl_append]; rfl
theorem two_any (j : JtL) (w : World) : Calls Tryz.prog 125 #[jtV j] w fun e w' => ∃ p, e = .returned (.slice (some ⟨p, 0, none⟩) (twoL j).length (twoL j).length) ∧ p < w'.heap.size ∧ Below w.heap.size w w' ∧ ∀ i c, (twoL j)[i]? = some c → At w' p (i * 5) (cfC c) := by
 unfold jtV twoL
 obtain ⟨⟨av, aw, al, ae, ak⟩, ⟨bv, bw, bl, be, bk⟩, t⟩ := j
 dsimp only at *
 have hB := (Below.refl w.heap.size w).alloc (Nat.le_refl _) (.cells #[.int .u16 (av : Int), .int .u16 (aw : Int), .int .u16 (al : Int), .int .i64 ae, .int .i64 ak, .int .u16 (bv : Int), .int .u16 (bw : Int), .int .u16 (bl : Int), .int .i64 be, .int .i64 bk, .bool t] 27)
 have hs := hB.size
 cases t
 ·
  have hB2 := hB.alloc hs (.cells #[.int .u16 (av : Int), .int .u16 (aw : Int), .int .u16 (al : Int), .int .i64 ae, .int .i64 ak] 25)
  have hA := at_new (w.alloc (.cells #[.int .u16 (av : Int), .int .u16 (aw : Int), .int .u16 (al : Int), .int .i64 ae, .int .i64 ak, .int .u16 (bv : Int), .int .u16 (bw : Int), .int .u16 (bl : Int), .int .i64 be, .int .i64 bk, .bool false] 27)) 25 (cfC ⟨av, aw, al, ae, ak⟩)
  go_enter Tryz.func125, Tryz.ntmps125
  go_wp2_with fail
  go_ret
  refine ⟨w.heap.size + 1, rfl, by simp, hB2, fun i c hc => ?_⟩
  have h0 : i = 0 := by
   rcases i with _ | i
   · rfl
   · simp at hc
  subst h0
  have hc := Option.some.inj hc
  subst hc
  have hsz : (w.alloc (.cells #[.int .u16 (av : Int), .int .u16 (aw : Int), .int .u16 (al : Int), .int .i64 ae, .int .i64 ak, .int .u16 (bv : Int), .int .u16 (bw : Int), .int .u16 (bl : Int), .int .i64 be, .int .i64 bk, .bool false] 27)).heap.size = w.heap.size + 1 := by simp
  rw [hsz] at hA
  exact hA
 ·
  have hB2 := hB.alloc hs (.cells #[.int .u16 (av : Int), .int .u16 (aw : Int), .int .u16 (al : Int), .int .i64 ae, .int .i64 ak, .int .u16 (bv : Int), .int .u16 (bw : Int), .int .u16 (bl : Int), .int .i64 be, .int .i64 bk] 25)
  have hA := at_new (w.alloc (.cells #[.int .u16 (av : Int), .int .u16 (aw : Int), .int .u16 (al : Int), .int .i64 ae, .int .i64 ak, .int .u16 (bv : Int), .int .u16 (bw : Int), .int .u16 (bl : Int), .int .i64 be, .int .i64 bk, .bool true] 27)) 25 (cfC ⟨av, aw, al, ae, ak⟩ ++ cfC ⟨bv, bw, bl, be, bk⟩)
  go_enter Tryz.func125, Tryz.ntmps125
  go_wp2_with fail
  go_ret
  refine ⟨w.heap.size + 1, rfl, by simp, hB2, fun i c hc => ?_⟩
  have hsz : (w.alloc (.cells #[.int .u16 (av : Int), .int .u16 (aw : Int), .int .u16 (al : Int), .int .i64 ae, .int .i64 ak, .int .u16 (bv : Int), .int .u16 (bw : Int), .int .u16 (bl : Int), .int .i64 be, .int .i64 bk, .bool true] 27)).heap.size = w.heap.size + 1 := by simp
  rw [hsz] at hA
  rcases i with _ | i
  ·
   have hc := Option.some.inj hc
   subst hc
   intro q u hu
   have hq : q < 5 := (List.getElem?_eq_some_iff.1 hu).1
   have := hA q u (by rw [List.getElem?_append_left (by exact hq)]; exact hu)
   rw [show 0 * 5 + q = 0 + q by omega]
   exact this
  ·
   have h0 : i = 0 := by
    rcases i with _ | i
    · rfl
    · simp at hc
   subst h0
   have hc := Option.some.inj hc
   subst hc
   intro q u hu
   have := hA (5 + q) u (by rw [List.getElem?_append_right (by show 5 ≤ 5 + q; omega)]; show _ = _; rw [show 5 + q - (cfC ⟨av, aw, al, ae, ak⟩).length = q by show 5 + q - 5 = q; omega]; exact hu)
   rw [show (0 + 1) * 5 + q = 0 + (5 + q) by omega]
   exact this
end Go.Proofs.YtegnfkbmlalkeaaGreat.ref10
namespace Go.Proofs.YtegnfkbmlalkeaaGreat.kit
open Go Go.RowKit nums cf lg cr
@[go_sem] def eqParts (d : Nat) (el : TypeId) (n : Nat) (xs ys : Array Value) : List Nat → Sem Bool
 | [] => pure true
 | i :: is => do
  let a ← part el xs (i * n)
  let b ← part el ys (i * n)
  let r ← Op.equalIn d el a b
  if (!r) = true then pure false else eqParts d el n xs ys is
theorem run_equalIn_array {P : Program} (w : World) (d : Nat) (t : TypeId) (len : Nat) (el : TypeId) (n : Nat) (xs ys : Array Value) (ht : P.underlying t = some (.array len el)) (hs : (sizeOf el).run P w = .ok n w) :
  (Op.equalIn (d + 1) t (.agg xs) (.agg ys)).run P w = (eqParts d el n xs ys (List.range len)).run P w := by
 simp only [Op.equalIn, Sem.run_bind, run_underlying ht, Result.andThen_ok, hs]
 rw [Std.Legacy.Range.forIn_eq_forIn_range', List.range_eq_range']
 have : (Std.Legacy.Range.mk 0 len 1 (by decide)).size = len := by simp [Std.Legacy.Range.size]
 try rw [this]
 generalize hL : List.range' 0 len = is
 try simp only [hL]
 clear hL ht hs
 induction is generalizing w with
 | nil => simp [eqParts]
 | cons f fs ih =>
  simp only [List.forIn_cons, eqParts, Sem.run_bind]
  generalize (part el xs (f * n)).run P w = r1
  cases r1 with
  | ok a w1 =>
   simp only [Result.andThen_ok]
   generalize (part el ys (f * n)).run P w1 = r2
   cases r2 with
   | ok b w2 =>
    simp only [Result.andThen_ok]
    generalize (Op.equalIn d el a b).run P w2 = r3
    cases r3 with
    | ok r w3 =>
     cases r
     · simp only [Result.andThen_ok, Bool.not_false, if_true, Sem.run_pure]
     ·
      simp only [Result.andThen_ok, Bool.not_true, Bool.false_eq_true, if_false, Sem.run_pure]
      exact ih w3
    | halt x w3 => simp [Result.andThen]
   | halt x w2 => simp [Result.andThen]
  | halt x w1 => simp [Result.andThen]
def eqT (f g : Nat → Int) : Bool := (List.range 10).all fun k => f k == g k
theorem sizeI (w : World) : (sizeOf 3).run Tryz.prog w = .ok 1 w := by
 have h : (Tryz.prog.info? 3).map (·.size) = some 1 := by kernel_rfl
 cases hq : Tryz.prog.info? 3 with
 | none => simp [hq] at h
 | some i =>
  have hs : i.size = 1 := by simpa [hq] using h
  simp [sizeOf, typeInfo, hq, hs]
theorem sizeT (w : World) : (sizeOf 31).run Tryz.prog w = .ok 10 w := by
 have h : (Tryz.prog.info? 31).map (·.size) = some 10 := by kernel_rfl
 cases hq : Tryz.prog.info? 31 with
 | none => simp [hq] at h
 | some i =>
  have hs : i.size = 10 := by simpa [hq] using h
  simp [sizeOf, typeInfo, hq, hs]
theorem aggT (w : World) : (isAgg 31).run Tryz.prog w = .ok true w := by
 simp [isAgg, run_underlying Tryz.underlying31]
theorem eq_ten (f g : Nat → Int) (w : World) : (binOp .eql 31 (a10V f) (a10V g)).run Tryz.prog w = .ok (.bool (eqT f g)) w := by
 unfold a10V a10C eqT
 rw [show List.range 10 = [0, 1, 2, 3, 4, 5, 6, 7, 8, 9] from rfl]
 simp only [List.all_cons, List.all_nil]
 generalize f 0 = x0, f 1 = x1, f 2 = x2, f 3 = x3, f 4 = x4, f 5 = x5, f 6 = x6, f 7 = x7, f 8 = x8, f 9 = x9
 generalize g 0 = z0, g 1 = z1, g 2 = z2, g 3 = z3, g 4 = z4, g 5 = z5, g 6 = z6, g 7 = z7, g 8 = z8, g 9 = z9
 go_simp
 rw [run_equalIn_array w 9999 _ 10 3 1 _ _ Tryz.underlying31 (sizeI w), show List.range 10 = [0, 1, 2, 3, 4, 5, 6, 7, 8, 9] from rfl]
 go_simp
 by_cases h0 : x0 = z0
 rotate_left
 · rw [if_neg h0]; simp [h0]
 rw [if_pos h0]
 by_cases h1 : x1 = z1
 rotate_left
 · rw [if_neg h1]; simp [h1]
 rw [if_pos h1]
 by_cases h2 : x2 = z2
 rotate_left
 · rw [if_neg h2]; simp [h2]
 rw [if_pos h2]
 by_cases h3 : x3 = z3
 rotate_left
 · rw [if_neg h3]; simp [h3]
 rw [if_pos h3]
 by_cases h4 : x4 = z4
 rotate_left
 · rw [if_neg h4]; simp [h4]
 rw [if_pos h4]
 by_cases h5 : x5 = z5
 rotate_left
 · rw [if_neg h5]; simp [h5]
 rw [if_pos h5]
 by_cases h6 : x6 = z6
 rotate_left
 · rw [if_neg h6]; simp [h6]
 rw [if_pos h6]
 by_cases h7 : x7 = z7
 rotate_left
 · rw [if_neg h7]; simp [h7]
 rw [if_pos h7]
 by_cases h8 : x8 = z8
 rotate_left
 · rw [if_neg h8]; simp [h8]
 rw [if_pos h8]
 by_cases h9 : x9 = z9
 rotate_left
 · rw [if_neg h9]; simp [h9]
 rw [if_pos h9]
 simp only [h0, h1, h2, h3, h4, h5, h6, h7, h8, h9, beq_self_eq_true, Bool.and_true]
end Go.Proofs.YtegnfkbmlalkeaaGreat.kit
namespace Go.Proofs.YtegnfkbmlalkeaaGreat.ref12
open Go Go.RowKit kit nums cf lg
theorem rlt_any (L : LgL) (A : Option Addr) (n c : Nat) (w : World) (B : Nat) (hR : RdE w B A n L.es) (hB : B ≤ w.heap.size) (hc : n ≤ c) (hf : Fit L) : Calls Tryz.prog 56 #[lgV L (.slice A n c)] w fun e w' => e = .returned (.int .i64 (termF L (lastF L)).1) ∧ Below w.heap.size w w' := by
 have HR := Lh hR
 have hl := hR.1
 have HF := Lh hf
 have hBs := Lh hB
 have hlast : lastF L = L.b + n := by unfold lastF; rw [hl]
 rw [hlast]
 clear hR hB hl hf
 unfold lgV at *
 obtain ⟨b, t, j, es⟩ := L
 dsimp only at *
 generalize hTT : termF ⟨b, t, j, es⟩ (b + (n : Int)) = TT at *
 obtain ⟨tv, tb⟩ := TT
 dsimp only
 have k0 : Blk 30 (w.alloc (.cells #[.int .i64 b, .int .i64 t, j0 j, j1 j, j2 j, j3 j, j4 j, j5 j, j6 j, j7 j, j8 j, j9 j, j10 j, .slice A n c] 30)) w.heap.size [.int .i64 b, .int .i64 t, j0 j, j1 j, j2 j, j3 j, j4 j, j5 j, j6 j, j7 j, j8 j, j9 j, j10 j, .slice A n c] := (heap_alloc_new w (.cells #[.int .i64 b, .int .i64 t, j0 j, j1 j, j2 j, j3 j, j4 j, j5 j, j6 j, j7 j, j8 j, j9 j, j10 j, .slice A n c] 30))
 have hB : Below w.heap.size w (w.alloc (.cells #[.int .i64 b, .int .i64 t, j0 j, j1 j, j2 j, j3 j, j4 j, j5 j, j6 j, j7 j, j8 j, j9 j, j10 j, .slice A n c] 30)) := ((Below.refl w.heap.size w).alloc (by first | exact Nat.le_refl _ | (simp; done) | (simp; omega)) (.cells #[.int .i64 b, .int .i64 t, j0 j, j1 j, j2 j, j3 j, j4 j, j5 j, j6 j, j7 j, j8 j, j9 j, j10 j, .slice A n c] 30))
 have HB := Lh hB
 have HS : Hid (∀ wq, Below (w.alloc (.cells #[.int .i64 b, .int .i64 t, j0 j, j1 j, j2 j, j3 j, j4 j, j5 j, j6 j, j7 j, j8 j, j9 j, j10 j, .slice A n c] 30)).heap.size (w.alloc (.cells #[.int .i64 b, .int .i64 t, j0 j, j1 j, j2 j, j3 j, j4 j, j5 j, j6 j, j7 j, j8 j, j9 j, j10 j, .slice A n c] 30)) wq → (wq.cell? ⟨w.heap.size, 0, none⟩ = some (.int .i64 b) ∧ wq.cell? ⟨w.heap.size, 1, none⟩ = some (.int .i64 t) ∧ wq.cell? ⟨w.heap.size, 2, none⟩ = some (j0 j) ∧ wq.cell? ⟨w.heap.size, 3, none⟩ = some (j1 j) ∧ wq.cell? ⟨w.heap.size, 4, none⟩ = some (j2 j) ∧ wq.cell? ⟨w.heap.size, 5, none⟩ = some (j3 j) ∧ wq.cell? ⟨w.heap.size, 6, none⟩ = some (j4 j) ∧ wq.cell? ⟨w.heap.size, 7, none⟩ = some (j5 j) ∧ wq.cell? ⟨w.heap.size, 8, none⟩ = some (j6 j) ∧ wq.cell? ⟨w.heap.size, 9, none⟩ = some (j7 j) ∧ wq.cell? ⟨w.heap.size, 10, none⟩ = some (j8 j) ∧ wq.cell? ⟨w.heap.size, 11, none⟩ = some (j9 j) ∧ wq.cell? ⟨w.heap.size, 12, none⟩ = some (j10 j) ∧ wq.cell? ⟨w.heap.size, 13, none⟩ = some (.slice A n c))) := fun wq hq => blk14 (k0.below hq k0.lt)
 have q0 := Below.refl (w.alloc (.cells #[.int .i64 b, .int .i64 t, j0 j, j1 j, j2 j, j3 j, j4 j, j5 j, j6 j, j7 j, j8 j, j9 j, j10 j, .slice A n c] 30)).heap.size (w.alloc (.cells #[.int .i64 b, .int .i64 t, j0 j, j1 j, j2 j, j3 j, j4 j, j5 j, j6 j, j7 j, j8 j, j9 j, j10 j, .slice A n c] 30))
 have K0 := Lh k0
 clear hB k0
 go_enter Tryz.func56, Tryz.ntmps56
 go_upto_region 1 with (fail)
 generalize (w.alloc (.cells #[.int .i64 b, .int .i64 t, j0 j, j1 j, j2 j, j3 j, j4 j, j5 j, j6 j, j7 j, j8 j, j9 j, j10 j, .slice A n c] 30)) = w1 at *
 have HR1 := Lh (HR.out.on (HB.out.mono hBs.out) (Nat.le_trans hBs.out HB.out.size))
 have CL := Lh (fun w' (hb : Below w1.heap.size w1 w') => rlast_any ⟨b, t, j, es⟩ A n c w' HR1.out.1 HF.out)
 have CT := Lh (fun w' (hb : Below w1.heap.size w1 w') => rterm_any ⟨b, t, j, es⟩ A n c (b + (n : Int)) w' w1.heap.size (HR1.out.below hb) hb.size hc HF.out)
 unfold lgV at CL CT
 dsimp only at CL CT
 rw [hlast] at CL
 rw [hTT] at CT
 clear hTT hlast
 have r0 := HS.out _ q0
 have q1 := q0.drew
 refine wp_region_held_drew (S := fun wq => (wq.cell? ⟨w.heap.size, 0, none⟩ = some (.int .i64 b) ∧ wq.cell? ⟨w.heap.size, 1, none⟩ = some (.int .i64 t) ∧ wq.cell? ⟨w.heap.size, 2, none⟩ = some (j0 j) ∧ wq.cell? ⟨w.heap.size, 3, none⟩ = some (j1 j) ∧ wq.cell? ⟨w.heap.size, 4, none⟩ = some (j2 j) ∧ wq.cell? ⟨w.heap.size, 5, none⟩ = some (j3 j) ∧ wq.cell? ⟨w.heap.size, 6, none⟩ = some (j4 j) ∧ wq.cell? ⟨w.heap.size, 7, none⟩ = some (j5 j) ∧ wq.cell? ⟨w.heap.size, 8, none⟩ = some (j6 j) ∧ wq.cell? ⟨w.heap.size, 9, none⟩ = some (j7 j) ∧ wq.cell? ⟨w.heap.size, 10, none⟩ = some (j8 j) ∧ wq.cell? ⟨w.heap.size, 11, none⟩ = some (j9 j) ∧ wq.cell? ⟨w.heap.size, 12, none⟩ = some (j10 j) ∧ wq.cell? ⟨w.heap.size, 13, none⟩ = some (.slice A n c))) (by kernel_rfl) ?s_lrlt (fun hHeld => ?_)
 case s_lrlt => exact HS.out _ q1
 iterate 2 (refine tx 0 _ ?_; try simp only [Act.put, ka, kb, kc])
 refine rr [2] ?_
 refine rc (fun KQ hKQ => ?_) AllReadyH.nil
 go_simp
 refine (CL.out _ q1).mono ?_
 rintro e y2 ⟨rfl, hY2⟩
 have q2 := q1.trans (hY2.mono q1.size)
 have r2 := HS.out _ q2
 go_wp2_with fail
 refine hKQ.out _ _ (r2) (fun _ => ?_)
 clear hKQ KQ
 try simp only [Act.put, ka, kb, kc]
 refine rr [3] ?_
 refine rc (fun KQ hKQ => ?_) AllReadyH.nil
 go_simp
 refine (CT.out _ q2).mono ?_
 rintro e y3 ⟨rfl, hY3⟩
 have q3 := q2.trans (hY3.mono q2.size)
 have r3 := HS.out _ q3
 go_wp2_with fail
 refine hKQ.out _ _ (r3) (fun _ => ?_)
 clear hKQ KQ
 try simp only [Act.put, ka, kb, kc]
 iterate 5 (refine tx 4 _ ?_; try simp only [Act.put, ka, kb, kc])
 refine wpAnyH_done (by kernel_rfl) ?_ _
 go_wp2_with fail
 go_ret
 exact ⟨rfl, HB.out.trans (q3.mono HB.out.size)⟩
end Go.Proofs.YtegnfkbmlalkeaaGreat.ref12
