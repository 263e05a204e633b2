/- What the document's answer to zone (antipoderef11) comes to: where replicas lie. Conditions: slices read as lists of ints. -/
import Derived.Test.YtfcljdpjjabhjaaDoorRef11d
import Derived.Test.YtfcljdpjjabhjaaDoorRef9c
namespace Go.Proofs.YtfcljdpjjabhjaaDoor.ref11
open Go Go.RowKit Go.Proofs.YtfcljdpjjabhjaaDoor.kit Go.Proofs.YtfcljdpjjabhjaaDoor.nums Go.Proofs.YtfcljdpjjabhjaaDoor.se Go.Proofs.YtfcljdpjjabhjaaDoor.cf Go.Proofs.YtfcljdpjjabhjaaDoor.zn Go.Proofs.YtfcljdpjjabhjaaDoor.ref9
set_option linter.unusedVariables false

def cfS (s : StL) : List Value := [.int .u16 (s.v : Int), .int .u16 (s.w : Int), .int .u16 (s.l : Int), .int .i64 0, .int .i64 0]
theorem cfS_get (s : StL) {i : Nat} (hi : i < 3) : (cfS s)[i]? = some (.int .u16 ((s.sel i : Nat) : Int)) := by
  match i, hi with
  | 0, _ => rfl
  | 1, _ => rfl
  | 2, _ => rfl
theorem cfS_put (s : StL) {i : Nat} (n : Nat) (hi : i < 3) : (cfS s).set i (.int .u16 ((withF (s.sel i) (n : Int) : Nat) : Int)) = cfS (s.put i n) := by
  match i, hi with
  | 0, _ => rfl
  | 1, _ => rfl
  | 2, _ => rfl
structure Al2 (cz cl cp : List Value) (gz gr gc : Nat) (W : World) (s : StL) (wr : World) : Prop where
  kz : Blk 24 wr gz cz
  kr : Blk 30 wr gr [.int .u16 0, .int .u16 0, .int .u16 0, .int .i64 0, .int .i64 0]
  kc : Blk 30 wr gc (cfS s)
  ks : Blk 51 wr (gc + 1) cp
  kl : Blk 22 wr (gc + 2) cl
  be : Below W.heap.size W wr
theorem Al2.store {cz cl cp : List Value} {gz gr gc : Nat} {W : World} {s : StL} {wr : World} (h : Al2 cz cl cp gz gr gc W s wr) {i : Nat} (n : Nat) (hi : i < 3) (hz : gz ≠ gc) (hr : gr ≠ gc) (hb : W.heap.size ≤ gc) :
    Al2 cz cl cp gz gr gc W (s.put i n) (wr.setCell ⟨gc, i, none⟩ (.int .u16 ((withF (s.sel i) (n : Int) : Nat) : Int))) :=
  ⟨h.kz.far hz _, h.kr.far hr _, by have := h.kc.set_ i (.int .u16 ((withF (s.sel i) (n : Int) : Nat) : Int)); rwa [cfS_put s n hi] at this, h.ks.far (show gc + 1 ≠ gc by omega) _, h.kl.far (show gc + 2 ≠ gc by omega) _, h.be.setCell hb _⟩
theorem Al2.drew {cz cl cp : List Value} {gz gr gc : Nat} {W : World} {s : StL} {wr : World} (h : Al2 cz cl cp gz gr gc W s wr) : Al2 cz cl cp gz gr gc W s wr.drew :=
  ⟨h.kz.drew, h.kr.drew, h.kc.drew, h.ks.drew, h.kl.drew, h.be.drew⟩
set_option maxHeartbeats 1000000 in
theorem allot_any (A : Option Addr) (n cp : Nat) (rs : List Int) (a : ZnA) (z : ZnL) (A2 : Option Addr) (m2 cp2 : Nat) (ld : List Int) (W : World)
    (hR : RdV W W.heap.size A n (i64s rs)) (hn : n ≤ 1099511627776) (hZ : RdZ W W.heap.size a z) (hL : RdV W W.heap.size A2 m2 (i64s ld)) (hm2 : m2 ≤ 1099511627776) :
    Calls Tryd.prog 10 #[.slice A n cp, znV a z, .slice A2 m2 cp2] W fun e w' => e = .returned (.tuple #[cfV (allotF rs z ld).1, .int .i64 (allotF rs z ld).2]) ∧ Below W.heap.size W w' := by
  have CR := Lib.hid (fun w (hb : Below W.heap.size W w) => mayRegions_any A n cp rs w W.heap.size (hR.below hb) hn)
  have CM := Lib.hid (fun w (hb : Below W.heap.size W w) => mayZone_any a z w W.heap.size (hZ.below hb) hb.size)
  have CB := Lib.hid (fun (r u : Nat) w (hb : Below W.heap.size W w) h9 hr hu => best_any A n cp rs r u A2 m2 cp2 ld w W.heap.size (hR.below hb) h9 hr hu (hL.below hb) hm2)
  have CW := Lib.hid (fun (s k : Nat) (hk : k ≤ 9) (hs : s < 65536) w => with_any s (k : Int) w hs (by omega) (by omega))
  have CV := Lib.hid (fun c w h => ref10.votes_any c w h)
  have CC := Lib.hid (fun s w hs => ref9.count_any s w hs)
  have hl := rd_len hR
  obtain ⟨res, hres⟩ : ∃ res, allotF rs z ld = res := ⟨_, rfl⟩
  rw [hres]
  have HRES := Lib.hid hres
  clear hR hL hres
  obtain ⟨r1, r2⟩ := res
  dsimp only
  have HCC : Hid (∀ i r, mayZ z = true → (z.lst i).getD r 0 = (z.cnt i r : Int) ∧ z.cnt i r ≤ 9) := Lib.hid (fun i r hz => cnt_cast hz i r)
  obtain ⟨h1, h2, h3, b1, b2, b3⟩ := hZ
  have HLS : Hid (∀ i, z.lst i = if i = 0 then z.v else if i = 1 then z.w else z.l) := fun i => by
    match i with
    | 0 => rfl
    | 1 => rfl
    | _ + 2 => rfl
  obtain ⟨z', hz'⟩ : ∃ z', z = z' := ⟨_, rfl⟩
  obtain ⟨a', ha'⟩ : ∃ a', a = a' := ⟨_, rfl⟩
  unfold znV at *
  rw [ha', hz']
  rw [ha'] at h1 h2 h3 b1 b2 b3
  obtain ⟨z1, n1, c1, z2, n2, c2, z3, n3, c3⟩ := a'
  obtain ⟨zv, zw, zl, ze, zk, zs⟩ := z'
  dsimp only at *
  have HAE := Lib.hid ha'
  have HZE := Lib.hid hz'
  clear ha' hz'
  have HC : Hid (∀ i, i < 3 → ∃ A m c, ([.slice z1 n1 c1, .slice z2 n2 c2, .slice z3 n3 c3] : List Value)[i]? = some (.slice A m c) ∧ (∀ wr, Below W.heap.size W wr → RdV wr W.heap.size A m (i64s (z.lst i))) ∧ m ≤ 1099511627776) := fun i hi => by
    have hi3 : i = 0 ∨ i = 1 ∨ i = 2 := by omega
    rcases hi3 with rfl | rfl | rfl
    · exact ⟨_, _, _, rfl, fun wr hb => by rw [HLS.out]; exact h1.below hb, b1⟩
    · exact ⟨_, _, _, rfl, fun wr hb => by rw [HLS.out]; exact h2.below hb, b2⟩
    · exact ⟨_, _, _, rfl, fun wr hb => by rw [HLS.out]; exact h3.below hb, b3⟩
  clear h1 h2 h3 b1 b2 b3 HLS
  have kz : Blk 24 ((W.alloc (.cells #[.slice z1 n1 c1, .slice z2 n2 c2, .slice z3 n3 c3, .int .i64 ze, .int .i64 zk, .int .i64 zs] 24)).alloc (.cells #[.int .u16 0, .int .u16 0, .int .u16 0, .int .i64 0, .int .i64 0] 30)) W.heap.size [.slice z1 n1 c1, .slice z2 n2 c2, .slice z3 n3 c3, .int .i64 ze, .int .i64 zk, .int .i64 zs] := Blk.alloc (heap_alloc_new W _) (.cells #[.int .u16 0, .int .u16 0, .int .u16 0, .int .i64 0, .int .i64 0] 30)
  have kr : Blk 30 ((W.alloc (.cells #[.slice z1 n1 c1, .slice z2 n2 c2, .slice z3 n3 c3, .int .i64 ze, .int .i64 zk, .int .i64 zs] 24)).alloc (.cells #[.int .u16 0, .int .u16 0, .int .u16 0, .int .i64 0, .int .i64 0] 30)) (W.alloc (.cells #[.slice z1 n1 c1, .slice z2 n2 c2, .slice z3 n3 c3, .int .i64 ze, .int .i64 zk, .int .i64 zs] 24)).heap.size [.int .u16 0, .int .u16 0, .int .u16 0, .int .i64 0, .int .i64 0] := heap_alloc_new _ _
  have hB0 := ((Below.refl W.heap.size W).alloc (Nat.le_refl _) (.cells #[.slice z1 n1 c1, .slice z2 n2 c2, .slice z3 n3 c3, .int .i64 ze, .int .i64 zk, .int .i64 zs] 24)).alloc (by simp) (.cells #[.int .u16 0, .int .u16 0, .int .u16 0, .int .i64 0, .int .i64 0] 30)
  go_enter Tryd.func10, Tryd.ntmps10
  go_upto_region 1 with (fail)
  have hs1 : ((W.alloc (.cells #[.slice z1 n1 c1, .slice z2 n2 c2, .slice z3 n3 c3, .int .i64 ze, .int .i64 zk, .int .i64 zs] 24)).alloc (.cells #[.int .u16 0, .int .u16 0, .int .u16 0, .int .i64 0, .int .i64 0] 30)).heap.size = W.heap.size + 2 := by simp
  have hsz : (W.alloc (.cells #[.slice z1 n1 c1, .slice z2 n2 c2, .slice z3 n3 c3, .int .i64 ze, .int .i64 zk, .int .i64 zs] 24)).heap.size = W.heap.size + 1 := by simp
  rw [hsz] at kr
  generalize ((W.alloc (.cells #[.slice z1 n1 c1, .slice z2 n2 c2, .slice z3 n3 c3, .int .i64 ze, .int .i64 zk, .int .i64 zs] 24)).alloc (.cells #[.int .u16 0, .int .u16 0, .int .u16 0, .int .i64 0, .int .i64 0] 30)) = w1 at *
  clear hsz
  have BE1 := Lib.hid hB0
  have KR := Lib.hid kr
  have KZ := Lib.hid kz
  clear hB0
  cases hm : mayR rs
  · have HE := Lib.hid (HRES.out.symm.trans (allot_arg (by rw [hm]; rfl)))
    have HE1 := Lib.hid (congrArg Prod.fst HE.out)
    have HE2 := Lib.hid (congrArg Prod.snd HE.out)
    dsimp only at HE1 HE2
    clear HE
    rw [hm] at CR
    obtain ⟨x0, x1, x2, x3, x4⟩ := blk5 kr
    have df := fun i => kr.frozen i
    clear kz kr
    go_wp2_with fail
    refine (CR.out _ BE1.out).mono ?_
    rintro e y1 ⟨rfl, rfl⟩
    go_wp2_with fail
    have sF := put5 (.int .u16 0) (.int .u16 0) (.int .u16 0) (.int .i64 0) (.int .i64 0) KR.out
    have bF := below5 (g := W.heap.size + 1) (.int .u16 0) (.int .u16 0) (.int .u16 0) (.int .i64 0) (.int .i64 0) BE1.out (by first | omega | simp)
    generalize (((((w1.setCell ⟨W.heap.size + 1, 0, none⟩ (.int .u16 0)).setCell ⟨W.heap.size + 1, 1, none⟩ (.int .u16 0)).setCell ⟨W.heap.size + 1, 2, none⟩ (.int .u16 0)).setCell ⟨W.heap.size + 1, 3, none⟩ (.int .i64 0)).setCell ⟨W.heap.size + 1, 4, none⟩ (.int .i64 0)) = wf at *
    obtain ⟨e0, e1, e2, e3, e4⟩ := blk5 sF
    (try simp only [Exit.inBlock, Exit.then])
    refine bodyPost_ret (by simp [results, Tryd.results10, go_sem, e0, e1, e2, e3, e4]; try rfl) rfl ?_
    exact ⟨by rw [HE1.out, HE2.out] <;> rfl, bF⟩
  · rw [hm] at CR
    obtain ⟨hn1, hn9, hW⟩ := mayR_len hm
    rw [hl] at hn1 hn9
    have cM := Lib.hid (CM.out w1 BE1.out)
    rw [HAE.out, HZE.out] at cM
    dsimp only at cM
    cases hv : mayZ z
    · have HE := Lib.hid (HRES.out.symm.trans (allot_arg (by rw [hm, hv]; rfl)))
      have HE1 := Lib.hid (congrArg Prod.fst HE.out)
      have HE2 := Lib.hid (congrArg Prod.snd HE.out)
      dsimp only at HE1 HE2
      clear HE
      rw [HZE.out] at hv
      rw [hv] at cM
      obtain ⟨z0, z01, z02, z03, z04, z05⟩ := blk6 kz
      clear kz kr CM
      go_wp2_with fail
      refine (CR.out _ BE1.out).mono ?_
      rintro e y1 ⟨rfl, rfl⟩
      go_wp2_with fail
      refine cM.out.mono ?_
      rintro e y1 ⟨rfl, hY1⟩
      have kr1 := KR.out.below hY1 KR.out.lt
      have hb1 := BE1.out.trans (hY1.mono BE1.out.size)
      obtain ⟨x0, x1, x2, x3, x4⟩ := blk5 kr1
      have df := fun i => kr1.frozen i
      have KR1 := Lib.hid kr1
      have HB1 := Lib.hid hb1
      clear kr1 hb1
      go_wp2_with fail
      have sF := put5 (.int .u16 0) (.int .u16 0) (.int .u16 0) (.int .i64 0) (.int .i64 0) KR1.out
      have bF := below5 (g := W.heap.size + 1) (.int .u16 0) (.int .u16 0) (.int .u16 0) (.int .i64 0) (.int .i64 0) HB1.out (by first | omega | simp)
      generalize (((((y1.setCell ⟨W.heap.size + 1, 0, none⟩ (.int .u16 0)).setCell ⟨W.heap.size + 1, 1, none⟩ (.int .u16 0)).setCell ⟨W.heap.size + 1, 2, none⟩ (.int .u16 0)).setCell ⟨W.heap.size + 1, 3, none⟩ (.int .i64 0)).setCell ⟨W.heap.size + 1, 4, none⟩ (.int .i64 0)) = wf at *
      obtain ⟨e0, e1, e2, e3, e4⟩ := blk5 sF
      (try simp only [Exit.inBlock, Exit.then])
      refine bodyPost_ret (by simp [results, Tryd.results10, go_sem, e0, e1, e2, e3, e4]; try rfl) rfl ?_
      exact ⟨by rw [HE1.out, HE2.out] <;> rfl, bF⟩
    · have hv' := hv
      rw [HZE.out] at hv
      rw [hv] at cM
      obtain ⟨z0, z01, z02, z03, z04, z05⟩ := blk6 kz
      clear kz kr CM
      go_wp2_with fail
      refine (CR.out _ BE1.out).mono ?_
      rintro e y1 ⟨rfl, rfl⟩
      go_wp2_with fail
      refine cM.out.mono ?_
      rintro e y1 ⟨rfl, hY1⟩
      have hsy : W.heap.size + 2 ≤ y1.heap.size := by have := hY1.size; omega
      have kr1 := KR.out.below hY1 KR.out.lt
      have kz1 := KZ.out.below hY1 KZ.out.lt
      have hb1 := BE1.out.trans (hY1.mono BE1.out.size)
      clear z0 z01 z02 z03 z04 z05
      have kzL := ((kz1.alloc (.cells #[.int .u16 0, .int .u16 0, .int .u16 0, .int .i64 0, .int .i64 0] 30)).alloc (.cells #[.pointer (some ⟨y1.heap.size, 0, none⟩), .pointer (some ⟨y1.heap.size, 1, none⟩), .pointer (some ⟨y1.heap.size, 2, none⟩)] 51)).alloc (.cells #[.slice z1 n1 c1, .slice z2 n2 c2, .slice z3 n3 c3] 22)
      have krL := ((kr1.alloc (.cells #[.int .u16 0, .int .u16 0, .int .u16 0, .int .i64 0, .int .i64 0] 30)).alloc (.cells #[.pointer (some ⟨y1.heap.size, 0, none⟩), .pointer (some ⟨y1.heap.size, 1, none⟩), .pointer (some ⟨y1.heap.size, 2, none⟩)] 51)).alloc (.cells #[.slice z1 n1 c1, .slice z2 n2 c2, .slice z3 n3 c3] 22)
      have kc0 : Blk 30 (y1.alloc (.cells #[.int .u16 0, .int .u16 0, .int .u16 0, .int .i64 0, .int .i64 0] 30)) y1.heap.size (cfS zeroS) := heap_alloc_new y1 _
      have kcL := (kc0.alloc (.cells #[.pointer (some ⟨y1.heap.size, 0, none⟩), .pointer (some ⟨y1.heap.size, 1, none⟩), .pointer (some ⟨y1.heap.size, 2, none⟩)] 51)).alloc (.cells #[.slice z1 n1 c1, .slice z2 n2 c2, .slice z3 n3 c3] 22)
      have ks0 : Blk 51 ((y1.alloc (.cells #[.int .u16 0, .int .u16 0, .int .u16 0, .int .i64 0, .int .i64 0] 30)).alloc (.cells #[.pointer (some ⟨y1.heap.size, 0, none⟩), .pointer (some ⟨y1.heap.size, 1, none⟩), .pointer (some ⟨y1.heap.size, 2, none⟩)] 51)) (y1.alloc (.cells #[.int .u16 0, .int .u16 0, .int .u16 0, .int .i64 0, .int .i64 0] 30)).heap.size [.pointer (some ⟨y1.heap.size, 0, none⟩), .pointer (some ⟨y1.heap.size, 1, none⟩), .pointer (some ⟨y1.heap.size, 2, none⟩)] := heap_alloc_new _ _
      have ksL := ks0.alloc (.cells #[.slice z1 n1 c1, .slice z2 n2 c2, .slice z3 n3 c3] 22)
      have klL : Blk 22 (((y1.alloc (.cells #[.int .u16 0, .int .u16 0, .int .u16 0, .int .i64 0, .int .i64 0] 30)).alloc (.cells #[.pointer (some ⟨y1.heap.size, 0, none⟩), .pointer (some ⟨y1.heap.size, 1, none⟩), .pointer (some ⟨y1.heap.size, 2, none⟩)] 51)).alloc (.cells #[.slice z1 n1 c1, .slice z2 n2 c2, .slice z3 n3 c3] 22)) ((y1.alloc (.cells #[.int .u16 0, .int .u16 0, .int .u16 0, .int .i64 0, .int .i64 0] 30)).alloc (.cells #[.pointer (some ⟨y1.heap.size, 0, none⟩), .pointer (some ⟨y1.heap.size, 1, none⟩), .pointer (some ⟨y1.heap.size, 2, none⟩)] 51)).heap.size [.slice z1 n1 c1, .slice z2 n2 c2, .slice z3 n3 c3] := heap_alloc_new _ _
      have hbL := ((hb1.alloc hb1.size (.cells #[.int .u16 0, .int .u16 0, .int .u16 0, .int .i64 0, .int .i64 0] 30)).alloc (by have := hb1.size; simp; omega) (.cells #[.pointer (some ⟨y1.heap.size, 0, none⟩), .pointer (some ⟨y1.heap.size, 1, none⟩), .pointer (some ⟨y1.heap.size, 2, none⟩)] 51)).alloc (by have := hb1.size; simp; omega) (.cells #[.slice z1 n1 c1, .slice z2 n2 c2, .slice z3 n3 c3] 22)
      have e1 : (y1.alloc (.cells #[.int .u16 0, .int .u16 0, .int .u16 0, .int .i64 0, .int .i64 0] 30)).heap.size = y1.heap.size + 1 := by simp
      have e2 : ((y1.alloc (.cells #[.int .u16 0, .int .u16 0, .int .u16 0, .int .i64 0, .int .i64 0] 30)).alloc (.cells #[.pointer (some ⟨y1.heap.size, 0, none⟩), .pointer (some ⟨y1.heap.size, 1, none⟩), .pointer (some ⟨y1.heap.size, 2, none⟩)] 51)).heap.size = y1.heap.size + 2 := by simp
      rw [e1] at ksL
      rw [e2] at klL
      obtain ⟨z0, z01, z02, z03, z04, z05⟩ := blk6 ((kz1.alloc (.cells #[.int .u16 0, .int .u16 0, .int .u16 0, .int .i64 0, .int .i64 0] 30)).alloc (.cells #[.pointer (some ⟨y1.heap.size, 0, none⟩), .pointer (some ⟨y1.heap.size, 1, none⟩), .pointer (some ⟨y1.heap.size, 2, none⟩)] 51))
      clear ks0 kc0 e1 e2 cM CR KR KZ kr1 kz1 hb1
      go_upto_region 6 with (fail)
      generalize (((y1.alloc (.cells #[.int .u16 0, .int .u16 0, .int .u16 0, .int .i64 0, .int .i64 0] 30)).alloc (.cells #[.pointer (some ⟨y1.heap.size, 0, none⟩), .pointer (some ⟨y1.heap.size, 1, none⟩), .pointer (some ⟨y1.heap.size, 2, none⟩)] 51)).alloc (.cells #[.slice z1 n1 c1, .slice z2 n2 c2, .slice z3 n3 c3] 22)) = w2 at *
      generalize y1.heap.size = gc at *
      have HI0 : Al2 [.slice z1 n1 c1, .slice z2 n2 c2, .slice z3 n3 c3, .int .i64 ze, .int .i64 zk, .int .i64 zs] [.slice z1 n1 c1, .slice z2 n2 c2, .slice z3 n3 c3] [.pointer (some ⟨gc, 0, none⟩), .pointer (some ⟨gc, 1, none⟩), .pointer (some ⟨gc, 2, none⟩)] W.heap.size (W.heap.size + 1) gc W zeroS w2 := ⟨kzL, krL, kcL, ksL, klL, hbL⟩
      have HI0 := Lib.hid HI0
      clear kzL krL kcL ksL klL hbL z0 z01 z02 z03 z04 z05
      have h9 : rs.length ≤ 9 := by omega
      have HAL := Lib.hid (fun (s : StL) h => HRES.out.symm.trans (allot_fine (s := s) hm hv' h))
      have HFU := Lib.hid (fun h => HRES.out.symm.trans (allot_full hm hv' h))
      have HCC := Lib.hid (fun i r => HCC.out i r hv')
      have HMAY := Lib.hid (fun (xs : List (Nat × Nat)) (s : StL) h => run_may (rs := rs) (ld := ld) h9 xs s h)
      have HPM := Lib.hid (fun (r u : Nat) => anreg_may h9 (r : Int) u)
      clear HRES hm hv
      go_wp2_with fail
      go_loopw [11, 12] (fun uv rv wr => ∃ (r : Nat) (s : StL), r ≤ 4 ∧ uv = .int .u16 (s.u : Int) ∧ rv = .int .i64 (r : Int) ∧ Hid (runF rs ld (preF z r) = some s) ∧ Hid (Al2 [.slice z1 n1 c1, .slice z2 n2 c2, .slice z3 n3 c3, .int .i64 ze, .int .i64 zk, .int .i64 zs] [.slice z1 n1 c1, .slice z2 n2 c2, .slice z3 n3 c3] [.pointer (some ⟨gc, 0, none⟩), .pointer (some ⟨gc, 1, none⟩), .pointer (some ⟨gc, 2, none⟩)] W.heap.size (W.heap.size + 1) gc W s wr)) (fun _ rv _ => 4 - (intOf rv).toNat)
      case atStart => exact ⟨0, zeroS, by omega, rfl, rfl, rfl, HI0.out⟩
      case round =>
        obtain ⟨r, s, hr, rfl, rfl, HRUN, HI⟩ := hrel
        by_cases hlt : r < 4
        · have hrr : (r : Int) < 4 := by omega
          have HR0 : Hid (runF rs ld (preF z r ++ regP z r 0) = some s) := by show _ = _; rw [show regP z r 0 = [] from rfl, List.append_nil]; exact HRUN.out
          clear HRUN HI0
          go_wp2_with fail
          go_loopw [11, 13] (fun uv iv wr => ∃ (i : Nat) (s : StL), i ≤ 3 ∧ uv = .int .u16 (s.u : Int) ∧ iv = .int .i64 (i : Int) ∧ Hid (runF rs ld (preF z r ++ regP z r i) = some s) ∧ Hid (Al2 [.slice z1 n1 c1, .slice z2 n2 c2, .slice z3 n3 c3, .int .i64 ze, .int .i64 zk, .int .i64 zs] [.slice z1 n1 c1, .slice z2 n2 c2, .slice z3 n3 c3] [.pointer (some ⟨gc, 0, none⟩), .pointer (some ⟨gc, 1, none⟩), .pointer (some ⟨gc, 2, none⟩)] W.heap.size (W.heap.size + 1) gc W s wr)) (fun _ iv _ => 3 - (intOf iv).toNat)
          case atStart => exact ⟨0, s, by omega, rfl, rfl, HR0.out, HI.out⟩
          case round =>
            clear HR0 HI
            obtain ⟨i, s1, hi, rfl, rfl, HR1, HI1⟩ := hrel
            by_cases hli : i < 3
            · have hii : (i : Int) < 3 := by omega
              obtain ⟨A1, m, c, hcell, hRd, hm40⟩ := HC.out i hli
              have HRd := Lib.hid hRd
              clear hRd
              have cnt := HCC.out i r
              have HQ0 : Hid (runF rs ld (preF z r ++ regP z r i ++ List.replicate 0 (r, i)) = some s1) := by show _ = _; simpa using HR1.out
              go_wp2_with fail
              go_loopw [11, 14] (fun uv kv wr => ∃ (k : Nat) (s : StL), k ≤ z.cnt i r ∧ uv = .int .u16 (s.u : Int) ∧ kv = .int .i64 (k : Int) ∧ Hid (runF rs ld (preF z r ++ regP z r i ++ List.replicate k (r, i)) = some s) ∧ Hid (Al2 [.slice z1 n1 c1, .slice z2 n2 c2, .slice z3 n3 c3, .int .i64 ze, .int .i64 zk, .int .i64 zs] [.slice z1 n1 c1, .slice z2 n2 c2, .slice z3 n3 c3] [.pointer (some ⟨gc, 0, none⟩), .pointer (some ⟨gc, 1, none⟩), .pointer (some ⟨gc, 2, none⟩)] W.heap.size (W.heap.size + 1) gc W s wr)) (fun _ kv _ => 9 - (intOf kv).toNat)
              case atStart => exact ⟨0, s1, by omega, rfl, rfl, HQ0.out, HI1.out⟩
              case round =>
                clear HQ0 HR1 HI1
                obtain ⟨k, s2, hk, rfl, rfl, HR2, HI2⟩ := hrel
                have hR := HRd.out _ HI2.out.be
                have hlm := rd_len hR
                have HG := Lib.hid (fun j hj => rd_get hR j hj)
                have cl : wr.cell? ⟨gc + 2, i, none⟩ = some (.slice A1 m c) := (HI2.out.kl.cell i).trans hcell
                clear hR
                by_cases hkt : k < z.cnt i r
                · have hrm : r < m := by
                    refine Decidable.byContradiction fun hno => ?_
                    have e : (z.lst i).getD r 0 = 0 := by rw [List.getD_eq_getElem?_getD, List.getElem?_eq_none (by omega)]; rfl
                    have := cnt.1
                    omega
                  obtain ⟨b, oo, x, rfl, hb, hx, hcx⟩ := HG.out r hrm
                  have hxc : x = (z.cnt i r : Int) := by rw [← cnt.1, List.getD_eq_getElem?_getD, hx]; rfl
                  subst hxc
                  have hkk : (k : Int) < (z.cnt i r : Int) := by omega
                  have hmy := HMAY.out _ _ HR2.out
                  have hul := may_lt hmy.2.2.2
                  have hsl : s2.sel i < 65536 := by
                    have l1 := may_lt hmy.1
                    have l2 := may_lt hmy.2.1
                    have l3 := may_lt hmy.2.2.1
                    have hi3 : i = 0 ∨ i = 1 ∨ i = 2 := by omega
                    rcases hi3 with rfl | rfl | rfl
                    · show s2.v < 65536; omega
                    · show s2.w < 65536; omega
                    · show s2.l < 65536; omega
                  have cb := Lib.hid (CB.out r s2.u wr HI2.out.be (by omega) hlt (by omega))
                  have hpm := HPM.out r s2.u
                  have hp9 : pickF (anF (regF rs (r : Int)) s2.u) ld ≤ 9 := pick_le _ _ _
                  have HSN : Hid (runF rs ld (preF z r ++ regP z r i ++ List.replicate (k + 1) (r, i)) = stepF rs ld s2 (r, i)) := by show _ = _; rw [rep_succ, run_snoc, HR2.out]; rfl
                  have HST : Hid (stepF rs ld s2 (r, i) = if pickF (anF (regF rs (r : Int)) s2.u) ld = 0 then none else some (s2.put i (pickF (anF (regF rs (r : Int)) s2.u) ld))) := Lib.hid rfl
                  generalize pickF (anF (regF rs (r : Int)) s2.u) ld = p at *
                  clear hx HG CB HPM HMAY hmy hpm HC HRd hlm
                  by_cases hp : p = 0
                  · have hp2 : ((p : Int) == 0) = true := by rw [beq_iff_eq]; omega
                    rw [if_pos hp] at HST
                    have hnone := HSN.out.trans HST.out
                    have HE := Lib.hid (HFU.out (fail_at hlt hli (show k + 1 ≤ z.cnt i r by omega) hnone))
                    have HE1 := Lib.hid (congrArg Prod.fst HE.out)
                    have HE2 := Lib.hid (congrArg Prod.snd HE.out)
                    dsimp only at HE1 HE2
                    clear HE hnone HST HSN HFU HAL hp
                    have KR2 := Lib.hid HI2.out.kr
                    have HB2 := Lib.hid HI2.out.be
                    obtain ⟨d0, d1, d2, d3, d4⟩ := blk5 KR2.out
                    have df := fun i => KR2.out.frozen i
                    go_wp2_with fail
                    refine cb.out.mono ?_
                    rintro e y2 ⟨rfl, rfl⟩
                    go_wp2_with fail
                    have sF := put5 (.int .u16 0) (.int .u16 0) (.int .u16 0) (.int .i64 0) (.int .i64 0) KR2.out
                    have bF := below5 (g := W.heap.size + 1) (.int .u16 0) (.int .u16 0) (.int .u16 0) (.int .i64 0) (.int .i64 0) HB2.out (by first | omega | simp)
                    generalize (((((wr.setCell ⟨W.heap.size + 1, 0, none⟩ (.int .u16 0)).setCell ⟨W.heap.size + 1, 1, none⟩ (.int .u16 0)).setCell ⟨W.heap.size + 1, 2, none⟩ (.int .u16 0)).setCell ⟨W.heap.size + 1, 3, none⟩ (.int .i64 0)).setCell ⟨W.heap.size + 1, 4, none⟩ (.int .i64 0)) = wf at *
                    obtain ⟨e0, e1, e2, e3, e4⟩ := blk5 sF
                    (try simp only [Exit.inBlock, Exit.then])
                    refine bodyPost_ret (by simp [results, Tryd.results10, go_sem, e0, e1, e2, e3, e4]; try rfl) rfl ?_
                    exact ⟨by rw [HE1.out, HE2.out] <;> rfl, bF⟩
                  · have hp2 : ((p : Int) == 0) = false := by rw [beq_eq_false_iff_ne]; omega
                    rw [if_neg hp] at HST
                    have HN := Lib.hid (HSN.out.trans HST.out)
                    have cw1 := Lib.hid (CW.out s2.u p hp9 (by omega) wr)
                    have cw2 := Lib.hid (CW.out (s2.sel i) p hp9 hsl)
                    have HV := Lib.hid (HI2.out.drew.store p hli (show W.heap.size ≠ gc by omega) (show W.heap.size + 1 ≠ gc by omega) (by omega))
                    have hpu : (s2.put i p).u = withF s2.u (p : Int) := put_u s2 i p
                    have HPU := Lib.hid hpu
                    clear hpu HST HSN HFU HAL hp
                    have cc : wr.cell? ⟨gc, i, none⟩ = some (.int .u16 ((s2.sel i : Nat) : Int)) := (HI2.out.kc.cell i).trans (cfS_get s2 hli)
                    have fc := HI2.out.kc.frozen i
                    have cs : wr.cell? ⟨gc + 1, i, none⟩ = some (.pointer (some ⟨gc, i, none⟩)) := by
                      rw [HI2.out.ks.cell i]
                      have hi3 : i = 0 ∨ i = 1 ∨ i = 2 := by omega
                      rcases hi3 with rfl | rfl | rfl <;> rfl
                    generalize withF s2.u (p : Int) = u2 at *
                    generalize hq : withF (s2.sel i) (p : Int) = q2 at *
                    generalize s2.sel i = si at *
                    clear hq
                    go_wp2_with fail
                    refine cb.out.mono ?_
                    rintro e y2 ⟨rfl, rfl⟩
                    go_wp2_with fail
                    refine cw1.out.mono ?_
                    rintro e y2 ⟨rfl, rfl⟩
                    go_upto_region 20 with (fail)
                    refine wp_region_held_drew (S := fun wq => wq.cell? ⟨gc + 1, i, none⟩ = some (.pointer (some ⟨gc, i, none⟩))) (by kernel_rfl) cs (fun hHeld => ?_)
                    refine tk 0 { dst := some 76, op := .move (.tmp 9), type := 54, pos := "ref.go:71", after := #[], guard := none } _ ?_
                    try simp only [Act.put, List.setIfInBounds_toArray, List.set_cons_zero, List.set_cons_succ]
                    refine tk 1 { dst := some 77, op := .move (.tmp 13), type := 3, pos := "ref.go:71", after := #[], guard := none } _ ?_
                    try simp only [Act.put, List.setIfInBounds_toArray, List.set_cons_zero, List.set_cons_succ]
                    refine tk 2 { dst := some 78, op := .indexAddr 54 (.tmp 76) (.tmp 77), type := 0, pos := "ref.go:71", after := #[{ on := 0, ground := .data }, { on := 1, ground := .data }], guard := none } _ ?_
                    try simp only [Act.put, List.setIfInBounds_toArray, List.set_cons_zero, List.set_cons_succ]
                    refine tk 3 { dst := some 79, op := .load 51 (.tmp 78), type := 51, pos := "ref.go:71", after := #[{ on := 2, ground := .data }], guard := none } _ ?_
                    try simp only [Act.put, List.setIfInBounds_toArray, List.set_cons_zero, List.set_cons_succ]
                    refine tk 4 { dst := some 80, op := .move (.tmp 9), type := 54, pos := "ref.go:71", after := #[], guard := none } _ ?_
                    try simp only [Act.put, List.setIfInBounds_toArray, List.set_cons_zero, List.set_cons_succ]
                    refine tk 5 { dst := some 81, op := .move (.tmp 13), type := 3, pos := "ref.go:71", after := #[], guard := none } _ ?_
                    try simp only [Act.put, List.setIfInBounds_toArray, List.set_cons_zero, List.set_cons_succ]
                    refine tk 6 { dst := some 82, op := .indexAddr 54 (.tmp 80) (.tmp 81), type := 0, pos := "ref.go:71", after := #[{ on := 4, ground := .data }, { on := 5, ground := .data }], guard := none } _ ?_
                    try simp only [Act.put, List.setIfInBounds_toArray, List.set_cons_zero, List.set_cons_succ]
                    refine tk 7 { dst := some 83, op := .load 51 (.tmp 82), type := 51, pos := "ref.go:71", after := #[{ on := 6, ground := .data }], guard := none } _ ?_
                    try simp only [Act.put, List.setIfInBounds_toArray, List.set_cons_zero, List.set_cons_succ]
                    refine tk 8 { dst := some 84, op := .nilCheck (.tmp 83), type := 0, pos := "ref.go:71", after := #[{ on := 7, ground := .data }], guard := none } _ ?_
                    try simp only [Act.put, List.setIfInBounds_toArray, List.set_cons_zero, List.set_cons_succ]
                    refine tk 10 { dst := some 86, op := .move (.tmp 15), type := 3, pos := "ref.go:71", after := #[], guard := none } _ ?_
                    try simp only [Act.put, List.setIfInBounds_toArray, List.set_cons_zero, List.set_cons_succ]
                    refine wpAnyH_ready (rs := [9]) (by kernel_rfl) (by simp) ?_
                    refine AllReadyH.cons (o := { dst := some 85, op := .load 28 (.tmp 84), type := 28, pos := "ref.go:71", after := #[{ on := 8, ground := .data }], guard := none }) rfl (fun KQ hKQ => ?_) AllReadyH.nil
                    go_simp
                    refine hKQ.out _ _ ?s_9 (fun hHeld9 => ?_)
                    case s_9 => exact cs
                    clear hKQ KQ
                    try simp only [Act.put, List.setIfInBounds_toArray, List.set_cons_zero, List.set_cons_succ]
                    refine wpAnyH_ready (rs := [11]) (by kernel_rfl) (by simp) ?_
                    refine AllReadyH.cons (o := { dst := some 87, op := .call { callee := .value (.func 18), args := #[.tmp 85, .tmp 86], argTypes := #[28, 3] }, type := 28, pos := "ref.go:71", after := #[{ on := 9, ground := .data }, { on := 10, ground := .data }], guard := none }) rfl (fun KQ hKQ => ?_) AllReadyH.nil
                    go_simp
                    refine (cw2.out _).mono ?_
                    rintro e y3 ⟨rfl, rfl⟩
                    go_wp2_with fail
                    refine hKQ.out _ _ ?s_11 (fun hHeld11 => ?_)
                    case s_11 => exact cs
                    clear hKQ KQ
                    try simp only [Act.put, List.setIfInBounds_toArray, List.set_cons_zero, List.set_cons_succ]
                    refine tk 12 { dst := some 88, op := .nilCheck (.tmp 79), type := 0, pos := "ref.go:71", after := #[{ on := 3, ground := .data }, { on := 0, ground := .phase }, { on := 1, ground := .phase }, { on := 2, ground := .phase }, { on := 3, ground := .phase }, { on := 4, ground := .phase }, { on := 5, ground := .phase }, { on := 6, ground := .phase }, { on := 7, ground := .phase }, { on := 8, ground := .phase }, { on := 9, ground := .phase }, { on := 10, ground := .phase }, { on := 11, ground := .phase }], guard := none } _ ?_
                    try simp only [Act.put, List.setIfInBounds_toArray, List.set_cons_zero, List.set_cons_succ]
                    refine wpAnyH_ready (rs := [13]) (by kernel_rfl) (by simp) ?_
                    refine AllReadyH.cons (o := { dst := none, op := .store 28 (.tmp 88) (.tmp 87), type := 0, pos := "ref.go:71", after := #[{ on := 12, ground := .data }, { on := 11, ground := .data }, { on := 11, ground := .chain }, { on := 0, ground := .phase }, { on := 1, ground := .phase }, { on := 2, ground := .phase }, { on := 3, ground := .phase }, { on := 4, ground := .phase }, { on := 5, ground := .phase }, { on := 6, ground := .phase }, { on := 7, ground := .phase }, { on := 8, ground := .phase }, { on := 9, ground := .phase }, { on := 10, ground := .phase }, { on := 11, ground := .phase }], guard := none }) rfl (fun KQ hKQ => ?_) AllReadyH.nil
                    go_simp
                    refine hKQ.out _ _ ?s_13 (fun hHeld13 => ?_)
                    case s_13 => exact (World.cell?_of_block (a := ⟨gc + 1, i, none⟩) (Below.heap_setCell _ ⟨gc, i, none⟩ _ (gc + 1) (by simp))).trans cs
                    clear hKQ KQ
                    try simp only [Act.put]
                    refine wpAnyH_done (by kernel_rfl) ?_ _
                    go_wp2_with fail
                    go_round
                    case rel => exact ⟨k + 1, s2.put i p, by omega, by rw [HPU.out], by go_num, HN.out, HV.out⟩
                    case measure => simp [intOf]; omega
                · obtain rfl : k = z.cnt i r := by omega
                  have HN : Hid (runF rs ld (preF z r ++ regP z r (i + 1)) = some s2) := by show _ = _; rw [reg_succ, ← List.append_assoc]; exact HR2.out
                  by_cases hrm : r < m
                  · obtain ⟨b, oo, x, rfl, hb, hx, hcx⟩ := HG.out r hrm
                    have hxc : x = (z.cnt i r : Int) := by rw [← cnt.1, List.getD_eq_getElem?_getD, hx]; rfl
                    subst hxc
                    have hrm2 : (r : Int) < (m : Int) := by omega
                    clear hx HG HC HRd HR2 CB HPM HMAY CW CV CC HAL HFU
                    generalize z.cnt i r = cn at *
                    go_wp2_with fail
                    go_round
                    case rel => exact ⟨i + 1, s2, by omega, rfl, by go_num, HN.out, HI2.out⟩
                    case measure => simp [intOf]; omega
                  · have hrm2 : ¬ (r : Int) < (m : Int) := by omega
                    clear HG HC HRd HR2 CB HPM HMAY CW CV CC HAL HFU
                    generalize z.cnt i r = cn at *
                    go_wp2_with fail
                    go_round
                    case rel => exact ⟨i + 1, s2, by omega, rfl, by go_num, HN.out, HI2.out⟩
                    case measure => simp [intOf]; omega
            · obtain rfl : i = 3 := by omega
              have HN : Hid (runF rs ld (preF z (r + 1)) = some s1) := by show _ = _; rw [pre_succ]; exact HR1.out
              clear HR1 CB HPM HMAY CW CV CC HAL HFU HC
              go_wp2_with fail
              go_round
              case rel => exact ⟨r + 1, s1, by omega, rfl, by go_num, HN.out, HI1.out⟩
              case measure => simp [intOf]; omega
        · obtain rfl : r = 4 := by omega
          have HE := Lib.hid (HAL.out s HRUN.out)
          have HE1 := Lib.hid (congrArg Prod.fst HE.out)
          have HE2 := Lib.hid (congrArg Prod.snd HE.out)
          dsimp only at HE1 HE2
          have hmay := HMAY.out _ _ HRUN.out
          have l1 := may_lt hmay.1
          have l2 := may_lt hmay.2.1
          have l3 := may_lt hmay.2.2.1
          have cV := Lib.hid (CV.out ⟨s.v, s.w, s.l, 0, 0⟩ wr ⟨show s.v < 65536 by omega, show s.w < 65536 by omega, show s.l < 65536 by omega, zero_ok.2.2.2.1, zero_ok.2.2.2.2⟩)
          unfold cfV at cV
          dsimp only at cV
          have cC := Lib.hid (fun w => CC.out (joinF s.v s.w) w (join_lt (by omega) (by omega)))
          have hcj := cnt_joinF s.v s.w
          rw [hcj] at cC
          have c9 := cntF_le (s.v ||| s.w)
          have E1 : Hid (confOf z s = ⟨s.v, s.w, s.l, quoF ze (cntF (s.v ||| s.w)), quoF zk (cntF (s.v ||| s.w))⟩) := by show _ = _; rw [HZE.out]; rfl
          try clear hcj
          try clear hmay
          try clear HE
          try clear HRUN
          try clear HI0
          try clear CM
          try clear CB
          try clear CW
          try clear CV
          try clear CC
          try clear HC
          try clear HCC
          try clear HAL
          try clear HFU
          try clear HMAY
          try clear HPM
          generalize cntF (s.v ||| s.w) = m at *
          generalize joinF s.v s.w = jn at *
          obtain ⟨x0, x1, x2, x3, x4⟩ := blk5 HI.out.kc
          go_wp2_with fail
          refine cV.out.mono ?_
          rintro e y4 ⟨rfl, hY4⟩
          go_wp2_with fail
          refine (cC.out _).mono ?_
          rintro e y5 ⟨rfl, hY5⟩
          have hYY := hY4.trans (hY5.mono hY4.size)
          have KZ := HI.out.kz.below hYY HI.out.kz.lt
          have KC := HI.out.kc.below hYY HI.out.kc.lt
          have KR2 := HI.out.kr.below hYY HI.out.kr.lt
          have HB2 := HI.out.be.trans (hYY.mono HI.out.be.size)
          clear x0 x1 x2 x3 x4 hY4 hY5 hYY HI cV cC
          obtain ⟨x0, x1, x2, x3, x4⟩ := blk5 KC
          obtain ⟨z0, z01, z02, z03, z04, z05⟩ := blk6 KZ
          have f0 := fun i => KC.frozen i
          go_upto_region 22 with (fail)
          refine wp_region_held_drew (S := fun wq => wq.cell? ⟨W.heap.size, 3, none⟩ = some (.int .i64 ze) ∧ wq.cell? ⟨W.heap.size, 4, none⟩ = some (.int .i64 zk)) (by kernel_rfl) ⟨KZ.drew.cell 3, KZ.drew.cell 4⟩ (fun hHeld => ?_)
          refine tk 0 { dst := some 94, op := .fieldAddr 24 (.tmp 4) 3, type := 0, pos := "ref.go:76", after := #[], guard := none } _ ?_
          try simp only [Act.put, List.setIfInBounds_toArray, List.set_cons_zero, List.set_cons_succ]
          refine tk 1 { dst := some 95, op := .load 3 (.tmp 94), type := 3, pos := "ref.go:76", after := #[{ on := 0, ground := .data }], guard := none } _ ?_
          try simp only [Act.put, List.setIfInBounds_toArray, List.set_cons_zero, List.set_cons_succ]
          refine tk 2 { dst := some 96, op := .fieldAddr 24 (.tmp 4) 4, type := 0, pos := "ref.go:76", after := #[{ on := 5, ground := .gcOnly Go.Departure.lateStores }], guard := none } _ ?_
          try simp only [Act.put, List.setIfInBounds_toArray, List.set_cons_zero, List.set_cons_succ]
          refine tk 3 { dst := some 97, op := .load 3 (.tmp 96), type := 3, pos := "ref.go:76", after := #[{ on := 2, ground := .data }, { on := 5, ground := .gcOnly Go.Departure.lateStores }], guard := none } _ ?_
          try simp only [Act.put, List.setIfInBounds_toArray, List.set_cons_zero, List.set_cons_succ]
          refine tk 4 { dst := some 98, op := .fieldAddr 30 (.tmp 8) 3, type := 0, pos := "ref.go:76", after := #[{ on := 0, ground := .phase }, { on := 1, ground := .phase }, { on := 2, ground := .textOnly Go.Departure.lateStores }, { on := 3, ground := .textOnly Go.Departure.lateStores }], guard := none } _ ?_
          try simp only [Act.put, List.setIfInBounds_toArray, List.set_cons_zero, List.set_cons_succ]
          refine wpAnyH_ready (rs := [5]) (by kernel_rfl) (by simp) ?_
          refine AllReadyH.cons (o := { dst := none, op := .store 3 (.tmp 98) (.tmp 95), type := 0, pos := "ref.go:76", after := #[{ on := 4, ground := .data }, { on := 1, ground := .data }, { on := 0, ground := .phase }, { on := 1, ground := .phase }, { on := 2, ground := .textOnly Go.Departure.lateStores }, { on := 3, ground := .textOnly Go.Departure.lateStores }], guard := none }) rfl (fun KQ hKQ => ?_) AllReadyH.nil
          go_simp
          refine hKQ.out _ _ ?s_5 (fun hHeld5 => ?_)
          case s_5 => exact ⟨(KZ.drew.far (show W.heap.size ≠ gc by omega) _).cell 3, (KZ.drew.far (show W.heap.size ≠ gc by omega) _).cell 4⟩
          clear hKQ KQ
          try simp only [Act.put]
          refine tk 6 { dst := some 99, op := .fieldAddr 30 (.tmp 8) 4, type := 0, pos := "ref.go:76", after := #[{ on := 0, ground := .phase }, { on := 1, ground := .phase }, { on := 2, ground := .phase }, { on := 3, ground := .phase }, { on := 4, ground := .phase }, { on := 5, ground := .phase }], guard := none } _ ?_
          try simp only [Act.put, List.setIfInBounds_toArray, List.set_cons_zero, List.set_cons_succ]
          refine wpAnyH_ready (rs := [7]) (by kernel_rfl) (by simp) ?_
          refine AllReadyH.cons (o := { dst := none, op := .store 3 (.tmp 99) (.tmp 97), type := 0, pos := "ref.go:76", after := #[{ on := 6, ground := .data }, { on := 3, ground := .data }, { on := 5, ground := .chain }, { on := 0, ground := .phase }, { on := 1, ground := .phase }, { on := 2, ground := .phase }, { on := 3, ground := .phase }, { on := 4, ground := .phase }, { on := 5, ground := .phase }], guard := none }) rfl (fun KQ hKQ => ?_) AllReadyH.nil
          go_simp
          refine hKQ.out _ _ ?s_7 (fun hHeld7 => ?_)
          case s_7 => exact ⟨((KZ.drew.far (show W.heap.size ≠ gc by omega) _).far (show W.heap.size ≠ gc by omega) _).cell 3, ((KZ.drew.far (show W.heap.size ≠ gc by omega) _).far (show W.heap.size ≠ gc by omega) _).cell 4⟩
          clear hKQ KQ
          try simp only [Act.put]
          refine wpAnyH_done (by kernel_rfl) ?_ _
          have kc6 : Blk 30 (((y5.setCell ⟨gc, 3, none⟩ (.int .i64 ze)).setCell ⟨gc, 4, none⟩ (.int .i64 zk)).drew) gc [.int .u16 (s.v : Int), .int .u16 (s.w : Int), .int .u16 (s.l : Int), .int .i64 ze, .int .i64 zk] := ((KC.set_ 3 _).set_ 4 _).drew
          have kr6 : Blk 30 (((y5.setCell ⟨gc, 3, none⟩ (.int .i64 ze)).setCell ⟨gc, 4, none⟩ (.int .i64 zk)).drew) (W.heap.size + 1) [.int .u16 0, .int .u16 0, .int .u16 0, .int .i64 0, .int .i64 0] := ((KR2.far (show W.heap.size + 1 ≠ gc by omega) _).far (show W.heap.size + 1 ≠ gc by omega) _).drew
          have hb6 : Below W.heap.size W (((y5.setCell ⟨gc, 3, none⟩ (.int .i64 ze)).setCell ⟨gc, 4, none⟩ (.int .i64 zk)).drew) := ((HB2.setCell (show W.heap.size ≤ gc by omega) _).setCell (show W.heap.size ≤ gc by omega) _).drew
          clear x0 x1 x2 x3 x4 z0 z01 z02 z03 z04 z05 f0 KZ KC KR2 HB2
          go_upto_region 23 with (fail)
          generalize ((y5.setCell ⟨gc, 3, none⟩ (.int .i64 ze)).setCell ⟨gc, 4, none⟩ (.int .i64 zk)).drew = w6 at *
          have eh : ((m / 2 + 1 : Nat) : Int) = (m : Int) / 2 + 1 := by omega
          have Q1 : Hid (∀ q : Int, quoF q m = if q = 0 then (m : Int) / 2 + 1 else q) := fun q => by unfold quoF; rw [eh]
          clear eh
          generalize (m : Int) / 2 + 1 = hf at *
          obtain ⟨x0, x1, x2, x3, x4⟩ := blk5 kc6
          have f0 := fun i => kc6.frozen i
          have KC6 := Lib.hid kc6
          have KR6 := Lib.hid kr6
          have HB6 := Lib.hid hb6
          clear kc6 kr6 hb6
          by_cases g1 : ze = 0
          · by_cases g2 : zk = 0
            · have h1 : (ze == 0) = true := by rw [beq_iff_eq]; exact g1
              have h2 : (zk == 0) = true := by rw [beq_iff_eq]; exact g2
              have E2 : Hid (confOf z s = ⟨s.v, s.w, s.l, hf, hf⟩) := by show _ = _; rw [E1.out, Q1.out, Q1.out, if_pos g1, if_pos g2]
              have kc7 : Blk 30 ((w6.setCell ⟨gc, 3, none⟩ (.int .i64 hf)).setCell ⟨gc, 4, none⟩ (.int .i64 hf)) gc [.int .u16 (s.v : Int), .int .u16 (s.w : Int), .int .u16 (s.l : Int), .int .i64 hf, .int .i64 hf] := ((((KC6.out).set_ 3 _)).set_ 4 _)
              have kr7 : Blk 30 ((w6.setCell ⟨gc, 3, none⟩ (.int .i64 hf)).setCell ⟨gc, 4, none⟩ (.int .i64 hf)) (W.heap.size + 1) [.int .u16 0, .int .u16 0, .int .u16 0, .int .i64 0, .int .i64 0] := ((((KR6.out).far (show W.heap.size + 1 ≠ gc by omega) _)).far (show W.heap.size + 1 ≠ gc by omega) _)
              have hb7 : Below W.heap.size W ((w6.setCell ⟨gc, 3, none⟩ (.int .i64 hf)).setCell ⟨gc, 4, none⟩ (.int .i64 hf)) := ((((HB6.out).setCell (show W.heap.size ≤ gc by omega) _)).setCell (show W.heap.size ≤ gc by omega) _)
              clear g1 g2
              go_upto_region 27 with (fail)
              generalize ((w6.setCell ⟨gc, 3, none⟩ (.int .i64 hf)).setCell ⟨gc, 4, none⟩ (.int .i64 hf)) = w7 at *
              have KR7 := Lib.hid kr7
              have HB7 := Lib.hid hb7
              clear x0 x1 x2 x3 x4 f0 KC6 KR6 HB6
              obtain ⟨x0, x1, x2, x3, x4⟩ := blk5 kc7
              obtain ⟨d0, d1, d2, d3, d4⟩ := blk5 kr7
              have df := fun i => kr7.frozen i
              clear kc7 kr7 hb7
              go_wp2_with fail
              have sF := put5 (.int .u16 (s.v : Int)) (.int .u16 (s.w : Int)) (.int .u16 (s.l : Int)) (.int .i64 hf) (.int .i64 hf) KR7.out
              have bF := below5 (g := W.heap.size + 1) (.int .u16 (s.v : Int)) (.int .u16 (s.w : Int)) (.int .u16 (s.l : Int)) (.int .i64 hf) (.int .i64 hf) HB7.out (by first | omega | simp)
              generalize (((((w7.setCell ⟨W.heap.size + 1, 0, none⟩ (.int .u16 (s.v : Int))).setCell ⟨W.heap.size + 1, 1, none⟩ (.int .u16 (s.w : Int))).setCell ⟨W.heap.size + 1, 2, none⟩ (.int .u16 (s.l : Int))).setCell ⟨W.heap.size + 1, 3, none⟩ (.int .i64 hf)).setCell ⟨W.heap.size + 1, 4, none⟩ (.int .i64 hf)) = wf at *
              obtain ⟨e0, e1, e2, e3, e4⟩ := blk5 sF
              (try simp only [Exit.inBlock, Exit.then])
              refine bodyPost_ret (by simp [results, Tryd.results10, go_sem, e0, e1, e2, e3, e4]; try rfl) rfl ?_
              exact ⟨by rw [HE1.out, HE2.out, E2.out]; rfl, bF⟩
            · have h1 : (ze == 0) = true := by rw [beq_iff_eq]; exact g1
              have h2 : (zk == 0) = false := by rw [beq_eq_false_iff_ne]; exact g2
              have E2 : Hid (confOf z s = ⟨s.v, s.w, s.l, hf, zk⟩) := by show _ = _; rw [E1.out, Q1.out, Q1.out, if_pos g1, if_neg g2]
              have kc7 : Blk 30 (w6.setCell ⟨gc, 3, none⟩ (.int .i64 hf)) gc [.int .u16 (s.v : Int), .int .u16 (s.w : Int), .int .u16 (s.l : Int), .int .i64 hf, .int .i64 zk] := ((KC6.out).set_ 3 _)
              have kr7 : Blk 30 (w6.setCell ⟨gc, 3, none⟩ (.int .i64 hf)) (W.heap.size + 1) [.int .u16 0, .int .u16 0, .int .u16 0, .int .i64 0, .int .i64 0] := ((KR6.out).far (show W.heap.size + 1 ≠ gc by omega) _)
              have hb7 : Below W.heap.size W (w6.setCell ⟨gc, 3, none⟩ (.int .i64 hf)) := ((HB6.out).setCell (show W.heap.size ≤ gc by omega) _)
              clear g1 g2
              go_upto_region 27 with (fail)
              generalize (w6.setCell ⟨gc, 3, none⟩ (.int .i64 hf)) = w7 at *
              have KR7 := Lib.hid kr7
              have HB7 := Lib.hid hb7
              clear x0 x1 x2 x3 x4 f0 KC6 KR6 HB6
              obtain ⟨x0, x1, x2, x3, x4⟩ := blk5 kc7
              obtain ⟨d0, d1, d2, d3, d4⟩ := blk5 kr7
              have df := fun i => kr7.frozen i
              clear kc7 kr7 hb7
              go_wp2_with fail
              have sF := put5 (.int .u16 (s.v : Int)) (.int .u16 (s.w : Int)) (.int .u16 (s.l : Int)) (.int .i64 hf) (.int .i64 zk) KR7.out
              have bF := below5 (g := W.heap.size + 1) (.int .u16 (s.v : Int)) (.int .u16 (s.w : Int)) (.int .u16 (s.l : Int)) (.int .i64 hf) (.int .i64 zk) HB7.out (by first | omega | simp)
              generalize (((((w7.setCell ⟨W.heap.size + 1, 0, none⟩ (.int .u16 (s.v : Int))).setCell ⟨W.heap.size + 1, 1, none⟩ (.int .u16 (s.w : Int))).setCell ⟨W.heap.size + 1, 2, none⟩ (.int .u16 (s.l : Int))).setCell ⟨W.heap.size + 1, 3, none⟩ (.int .i64 hf)).setCell ⟨W.heap.size + 1, 4, none⟩ (.int .i64 zk)) = wf at *
              obtain ⟨e0, e1, e2, e3, e4⟩ := blk5 sF
              (try simp only [Exit.inBlock, Exit.then])
              refine bodyPost_ret (by simp [results, Tryd.results10, go_sem, e0, e1, e2, e3, e4]; try rfl) rfl ?_
              exact ⟨by rw [HE1.out, HE2.out, E2.out]; rfl, bF⟩
          · by_cases g2 : zk = 0
            · have h1 : (ze == 0) = false := by rw [beq_eq_false_iff_ne]; exact g1
              have h2 : (zk == 0) = true := by rw [beq_iff_eq]; exact g2
              have E2 : Hid (confOf z s = ⟨s.v, s.w, s.l, ze, hf⟩) := by show _ = _; rw [E1.out, Q1.out, Q1.out, if_neg g1, if_pos g2]
              have kc7 : Blk 30 (w6.setCell ⟨gc, 4, none⟩ (.int .i64 hf)) gc [.int .u16 (s.v : Int), .int .u16 (s.w : Int), .int .u16 (s.l : Int), .int .i64 ze, .int .i64 hf] := ((KC6.out).set_ 4 _)
              have kr7 : Blk 30 (w6.setCell ⟨gc, 4, none⟩ (.int .i64 hf)) (W.heap.size + 1) [.int .u16 0, .int .u16 0, .int .u16 0, .int .i64 0, .int .i64 0] := ((KR6.out).far (show W.heap.size + 1 ≠ gc by omega) _)
              have hb7 : Below W.heap.size W (w6.setCell ⟨gc, 4, none⟩ (.int .i64 hf)) := ((HB6.out).setCell (show W.heap.size ≤ gc by omega) _)
              clear g1 g2
              go_upto_region 27 with (fail)
              generalize (w6.setCell ⟨gc, 4, none⟩ (.int .i64 hf)) = w7 at *
              have KR7 := Lib.hid kr7
              have HB7 := Lib.hid hb7
              clear x0 x1 x2 x3 x4 f0 KC6 KR6 HB6
              obtain ⟨x0, x1, x2, x3, x4⟩ := blk5 kc7
              obtain ⟨d0, d1, d2, d3, d4⟩ := blk5 kr7
              have df := fun i => kr7.frozen i
              clear kc7 kr7 hb7
              go_wp2_with fail
              have sF := put5 (.int .u16 (s.v : Int)) (.int .u16 (s.w : Int)) (.int .u16 (s.l : Int)) (.int .i64 ze) (.int .i64 hf) KR7.out
              have bF := below5 (g := W.heap.size + 1) (.int .u16 (s.v : Int)) (.int .u16 (s.w : Int)) (.int .u16 (s.l : Int)) (.int .i64 ze) (.int .i64 hf) HB7.out (by first | omega | simp)
              generalize (((((w7.setCell ⟨W.heap.size + 1, 0, none⟩ (.int .u16 (s.v : Int))).setCell ⟨W.heap.size + 1, 1, none⟩ (.int .u16 (s.w : Int))).setCell ⟨W.heap.size + 1, 2, none⟩ (.int .u16 (s.l : Int))).setCell ⟨W.heap.size + 1, 3, none⟩ (.int .i64 ze)).setCell ⟨W.heap.size + 1, 4, none⟩ (.int .i64 hf)) = wf at *
              obtain ⟨e0, e1, e2, e3, e4⟩ := blk5 sF
              (try simp only [Exit.inBlock, Exit.then])
              refine bodyPost_ret (by simp [results, Tryd.results10, go_sem, e0, e1, e2, e3, e4]; try rfl) rfl ?_
              exact ⟨by rw [HE1.out, HE2.out, E2.out]; rfl, bF⟩
            · have h1 : (ze == 0) = false := by rw [beq_eq_false_iff_ne]; exact g1
              have h2 : (zk == 0) = false := by rw [beq_eq_false_iff_ne]; exact g2
              have E2 : Hid (confOf z s = ⟨s.v, s.w, s.l, ze, zk⟩) := by show _ = _; rw [E1.out, Q1.out, Q1.out, if_neg g1, if_neg g2]
              have kc7 : Blk 30 w6 gc [.int .u16 (s.v : Int), .int .u16 (s.w : Int), .int .u16 (s.l : Int), .int .i64 ze, .int .i64 zk] := KC6.out
              have kr7 : Blk 30 w6 (W.heap.size + 1) [.int .u16 0, .int .u16 0, .int .u16 0, .int .i64 0, .int .i64 0] := KR6.out
              have hb7 : Below W.heap.size W w6 := HB6.out
              clear g1 g2
              go_upto_region 27 with (fail)
              obtain ⟨w7, hw7⟩ : ∃ w7, w6 = w7 := ⟨_, rfl⟩
              subst hw7
              have KR7 := Lib.hid kr7
              have HB7 := Lib.hid hb7
              clear x0 x1 x2 x3 x4 f0 KC6 KR6 HB6
              obtain ⟨x0, x1, x2, x3, x4⟩ := blk5 kc7
              obtain ⟨d0, d1, d2, d3, d4⟩ := blk5 kr7
              have df := fun i => kr7.frozen i
              clear kc7 kr7 hb7
              go_wp2_with fail
              have sF := put5 (.int .u16 (s.v : Int)) (.int .u16 (s.w : Int)) (.int .u16 (s.l : Int)) (.int .i64 ze) (.int .i64 zk) KR7.out
              have bF := below5 (g := W.heap.size + 1) (.int .u16 (s.v : Int)) (.int .u16 (s.w : Int)) (.int .u16 (s.l : Int)) (.int .i64 ze) (.int .i64 zk) HB7.out (by first | omega | simp)
              generalize (((((w6.setCell ⟨W.heap.size + 1, 0, none⟩ (.int .u16 (s.v : Int))).setCell ⟨W.heap.size + 1, 1, none⟩ (.int .u16 (s.w : Int))).setCell ⟨W.heap.size + 1, 2, none⟩ (.int .u16 (s.l : Int))).setCell ⟨W.heap.size + 1, 3, none⟩ (.int .i64 ze)).setCell ⟨W.heap.size + 1, 4, none⟩ (.int .i64 zk)) = wf at *
              obtain ⟨e0, e1, e2, e3, e4⟩ := blk5 sF
              (try simp only [Exit.inBlock, Exit.then])
              refine bodyPost_ret (by simp [results, Tryd.results10, go_sem, e0, e1, e2, e3, e4]; try rfl) rfl ?_
              exact ⟨by rw [HE1.out, HE2.out, E2.out]; rfl, bF⟩
end Go.Proofs.YtfcljdpjjabhjaaDoor.ref11
