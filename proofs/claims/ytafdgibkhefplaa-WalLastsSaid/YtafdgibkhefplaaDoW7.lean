/- The statements' own do, of logs: rewriting. Conditions: those that each theorem names. -/
import Derived.Test.YtafdgibkhefplaaDoW6
namespace Go.Proofs.Ytafdgibkhefplaa.law5
open Go.RowKit Go.Proofs.Ytafdgibkhefplaa.kit Go.Proofs.Ytafdgibkhefplaa.nums Go.Proofs.Ytafdgibkhefplaa.ds Go.Proofs.Ytafdgibkhefplaa.ws Go.Proofs.Ytafdgibkhefplaa.ref4 Go.Proofs.Ytafdgibkhefplaa.ref5 Go.Proofs.Ytafdgibkhefplaa.law0 Go.Proofs.Ytafdgibkhefplaa.bytes
set_option linter.unusedVariables false

/-- No two of the slices lie in one block. -/
def Apart (xs : List Value) : Prop := ∀ (i j : Nat) (x y : Value) (k : Nat), i ≠ j → xs[i]? = some x → xs[j]? = some y → x.ownBlock = some k → y.ownBlock ≠ some k
theorem Apart.snoc {xs : List Value} {w : World} {base n c : Nat} {L : List (List Int)} (h : Apart xs) (hT : TwinsOf w base xs L) (hl : xs.length ≤ L.length) : Apart (xs ++ [.slice (some ⟨w.heap.size, 0, none⟩) n c]) := by
  have hold : ∀ (i : Nat) (x : Value) (k : Nat), xs[i]? = some x → x.ownBlock = some k → k < w.heap.size := fun i x k hx hk => by
    have hi := (List.getElem?_eq_some_iff.1 hx).1
    obtain ⟨g, e, hI, _⟩ := hT i x L[i] hx (List.getElem?_eq_getElem (by omega))
    rw [e] at hk
    simp [Value.ownBlock] at hk
    have := hI.lt
    omega
  have hcase : ∀ (i : Nat) (y : Value), (xs ++ [Value.slice (some ⟨w.heap.size, 0, none⟩) n c])[i]? = some y → (i < xs.length ∧ xs[i]? = some y) ∨ (i = xs.length ∧ y.ownBlock = some w.heap.size) := fun i y hy => by
    by_cases hi : i < xs.length
    · rw [List.getElem?_append_left hi] at hy; exact .inl ⟨hi, hy⟩
    · have h2 := (List.getElem?_eq_some_iff.1 hy).1
      simp at h2
      obtain rfl : i = xs.length := by omega
      rw [List.getElem?_append_right (by omega), Nat.sub_self] at hy
      simp at hy
      exact .inr ⟨rfl, by rw [← hy]; rfl⟩
  intro i j x y k hne hx hy hk
  rcases hcase i x hx with ⟨hi, hx1⟩ | ⟨hi, hx1⟩
  · rcases hcase j y hy with ⟨hj, hy1⟩ | ⟨hj, hy1⟩
    · exact h i j x y k hne hx1 hy1 hk
    · intro h2
      rw [hy1] at h2
      have := hold i x k hx1 hk
      have := Option.some.inj h2
      omega
  · rcases hcase j y hy with ⟨hj, hy1⟩ | ⟨hj, hy1⟩
    · intro h2
      have := hold j y k hy1 h2
      rw [hx1] at hk
      have := Option.some.inj hk
      omega
    · omega
set_option maxHeartbeats 400000 in
theorem twins_apart (A : Option Addr) (n c : Nat) (L : List (List Int)) (w : World) (hR : RdS w w.heap.size A n L) (hb : n ≤ 1099511627776) (ht : ∀ l ∈ L, l.length ≤ 1099511627776) :
    Calls Try.prog 42 #[.slice A n c] w fun e w' => ∃ A n c xs, e = .returned (.slice A n c) ∧ xs.length = n ∧ L.length = n ∧ OwnV 35 w' w.heap.size (.slice A n c) xs ∧ TwinsOf w' w.heap.size xs L ∧ Below w.heap.size w w' ∧ Apart xs := by
  have HL := Lib.hid hR.len
  have HR := Lib.hid hR
  clear hR
  go_enter Try.func42, Try.ntmps42
  go_wp2_with fail
  go_loopw [3, 4] (fun s i wr => ∃ (j : Nat) (A' : Option Addr) (c' : Nat) (xs : List Value), j ≤ n ∧ i = .int .i64 j ∧ s = .slice A' j c' ∧ Hid (xs.length = j) ∧ OwnV 35 wr w.heap.size (.slice A' j c') xs ∧ TwinsOf wr w.heap.size xs L ∧ Below w.heap.size w wr ∧ Hid (Apart xs)) (fun _ i _ => n - (intOf i).toNat)
  case atStart => exact ⟨0, none, 0, [], by omega, rfl, rfl, rfl, OwnV.nil _ _ _, fun j x l hx => by simp at hx, Below.refl _ _, (fun i j x y k _ h => by simp at h : Apart [])⟩
  case round =>
    obtain ⟨j, A', c', xs, hj, rfl, rfl, HX, hO, hT, hB, hAp⟩ := hrel
    by_cases hlt : j < n
    · have hRw := HR.out.on hB hB.size
      obtain ⟨b, o, Aj, cj, l, rfl, hLj, hx, hl1, hl2, hRj⟩ := hRw.at_ hlt
      have hll := ht l (List.mem_of_getElem? hLj)
      have C := Lib.hid (twin_any Aj l.length cj l wr hRj hll)
      have HLj := Lib.hid hLj
      have HKL := Lib.hid (rfl : l.length = l.length)
      clear hRj hLj hRw
      go_wp2_with fail
      refine C.out.mono ?_
      rintro e w2 ⟨rfl, hT2, hB2⟩
      clear C
      have hO2 := (hO.below hB2).alloc (.cells #[.slice (some ⟨wr.heap.size, 0, none⟩) l.length (l.length + 3)] 35)
      have hT3 := (hT.below hB2).below ((Below.refl _ _).alloc (Nat.le_refl _) (.cells #[.slice (some ⟨wr.heap.size, 0, none⟩) l.length (l.length + 3)] 35))
      have hT4 := hT2.below ((Below.refl _ _).alloc (Nat.le_refl _) (.cells #[.slice (some ⟨wr.heap.size, 0, none⟩) l.length (l.length + 3)] 35)) hT2.lt
      go_wp2_with (at_builtin; with_reducible refine wpList_append_v rfl (.tmp 11) (.tmp 17) 36 rfl w.heap.size 35 (.slice none 0 0) 24 Try.underlying36 infoB rfl A' j c' xs HX.out rfl hO2 _ _ 1 1 [_] rfl (RdV.one _ _ _) ?h1 ?h2 ?h3 ?h4 ?_)
      case h1 => intro u hu; rw [List.mem_singleton] at hu; subst hu; rfl
      case h2 => omega
      case h3 => unfold maxLen; omega
      case h4 => have := hB.size; have := hB2.size; simp; omega
      intro A3 c3 w3 hO3 hB3 hG3
      have hT5 := (hT3.grown hO2 hG3).snoc HX.out HLj.out (twin_grown hT4 hO2 hG3) hB.size
      have hB4 : Below w.heap.size w w3 := (hB.trans (hB2.mono hB.size)).trans (((Below.refl _ _).alloc (by have := hB.size; have := hB2.size; omega) _).trans hB3)
      have HX2 : Hid ((xs ++ [Value.slice (some ⟨wr.heap.size, 0, none⟩) l.length (l.length + 3)]).length = j + 1) := by show _ = _; rw [List.length_append, HX.out]; rfl
      have hApl : xs.length ≤ L.length := by have := HX.out; have := HL.out; omega
      have HAp2 : Hid (Apart (xs ++ [.slice (some ⟨wr.heap.size, 0, none⟩) l.length (l.length + 3)])) := hAp.out.snoc hT hApl
      clear hT4 hT3 hT2 hO2 hG3 hB3 hB2 hO hT hB hx
      go_wp2_with fail
      go_roundw
      case rel => exact ⟨j + 1, A3, c3, _, by omega, by go_num, by go_num, HX2, hO3, hT5, hB4, HAp2⟩
      case measure => simp [intOf]; omega
    · obtain rfl : j = n := by omega
      go_wp2_with fail
      go_ret
      exact ⟨A', j, c', xs, rfl, HX.out, HL.out, hO, hT, hB, hAp.out⟩

section
variable {w z : World} {base k : Nat} {v : Value} {xs : List Value} {l : List Int}
/-- A row's own block is not a twin's. -/
theorem own_spoiled (hO : OwnV 35 w base v xs) (hT : IsTwin w k l) (hG : w.grownBy z (some k)) : OwnV 35 z base v xs := by
  refine ⟨hO.1, ?_⟩
  rcases hO.2 with hn | ⟨g, cap, cur, he, hb, hc, r⟩
  · exact .inl hn
  · have hne : some g ≠ some k := by
      intro e
      obtain rfl := Option.some.inj e
      have h1 : w.heap[g]? = some (.cells (u8s (l ++ [229, 229, 229])).toArray 5 (0, 0)) := hT
      rw [hc] at h1
      simp at h1
    exact .inr ⟨g, cap, cur, he, hb, (hG.block g (Array.getElem?_eq_some_iff.1 hc).1 hne).trans hc, r⟩
theorem twin_own (hT : IsTwin w k l) (hl : l.length ≤ 1099511627776) : Own 5 w k (.slice (some ⟨k, 0, none⟩) l.length (l.length + 3)) l := own_of_block (Nat.le_refl _) hT rfl (by omega) (by omega) (by rw [u8s_length, List.length_append]; rfl) (by rw [u8s_append, ← u8s_length]; exact List.take_left)
end
/-- The twins from place j on stand as they were made, in blocks from n1 up to m. -/
def Stand (w : World) (n1 m j : Nat) (xs : List Value) (L : List (List Int)) : Prop :=
  ∀ (i : Nat) (x : Value) (l : List Int), j ≤ i → xs[i]? = some x → L[i]? = some l → ∃ k, x = .slice (some ⟨k, 0, none⟩) l.length (l.length + 3) ∧ IsTwin w k l ∧ n1 ≤ k ∧ k < m
theorem Stand.next {w z : World} {n1 m j k : Nat} {xs : List Value} {L : List (List Int)} (h : Stand w n1 m j xs L) (hA : Apart xs) {n c : Nat} (hx : xs[j]? = some (.slice (some ⟨k, 0, none⟩) n c)) (hG : w.grownBy z (some k)) : Stand z n1 m (j + 1) xs L := fun i x l hi hxi hl => by
  obtain ⟨b, e, hT, h1, h2⟩ := h i x l (by omega) hxi hl
  refine ⟨b, e, (hG.block b hT.lt (fun he => ?_)).trans hT, h1, h2⟩
  obtain rfl := Option.some.inj he
  exact hA i j x _ b (by omega) hxi hx (by rw [e]; rfl) rfl

section
variable (w : World) (B q a g : Nat) (D : DS) (fd : Nat → Prop) (pw px : Value) (labo : Nat → Nat) (o : OpW) (v3 v4 v5 : Value) (h : BothD w B q a g D fd pw px labo) (hP : Part w a g D pw px labo) (hB : B ≤ w.heap.size) (hs : D.stepped ≤ 980000) (hp : D.powers ≤ 980000) (ho : OpWOk o) (hv : OpWV w B o v3 v4 v5)
include h hP hB hs hp ho hv
set_option maxRecDepth 100000 in
set_option maxHeartbeats 2000000 in
theorem do_2 (hkind : placeF o.kind 7 = 2) (hll : o.l.length ≤ 10) (hlf : o.l.flatten.length ≤ 2000) :
    Calls Try.prog 14 #[.pointer (some ⟨q, 0, none⟩), .agg #[.int .i64 o.kind, .int .i64 o.n, .bool o.made, v3, v4, v5]] w (RetDoW w B q a g D) := by
  go_enter Try.func14, Try.ntmps14
  have CP := Lib.hid (place_any o.kind 7 (w.alloc (.cells #[.int .i64 o.kind, .int .i64 o.n, .bool o.made, v3, v4, v5] 39)) ho.kind.1 ho.kind.2 (by omega))
  have hal : Below w.heap.size w (w.alloc (.cells #[.int .i64 o.kind, .int .i64 o.n, .bool o.made, v3, v4, v5] 39)) := (Below.refl _ _).alloc (Nat.le_refl _) _
  obtain ⟨hu, hup⟩ := unlab h hP (Nat.le_refl w.heap.size)
  have hb0 := hu.below hal
  have hp0 := hup.below hu hal
  have hgo0 : (fun k => if k = w.heap.size then 0 else labo k) w.heap.size = 0 := if_pos rfl
  have hblk : Blk 39 (w.alloc (.cells #[.int .i64 o.kind, .int .i64 o.n, .bool o.made, v3, v4, v5] 39)) w.heap.size [.int .i64 o.kind, .int .i64 o.n, .bool o.made, v3, v4, v5] := heap_alloc_new w _
  have hB0 : Below B w (w.alloc (.cells #[.int .i64 o.kind, .int .i64 o.n, .bool o.made, v3, v4, v5] 39)) := hal.mono hB
  have hv1 := hv.below hB0
  have hof : ¬ fd w.heap.size := fun hf => by have := h.d.lt _ hf; omega
  have hog : w.heap.size ≠ g := by have := h.r.lt; omega
  have hoB : B ≤ w.heap.size := hB
  rw [hkind] at CP
  clear h hv hP hal hu hup
  generalize (fun k => if k = w.heap.size then 0 else labo k) = lab at *
  go_upto_region 1 with (fail)
  generalize (w.alloc (.cells #[.int .i64 o.kind, .int .i64 o.n, .bool o.made, v3, v4, v5] 39)) = w1 at *
  generalize w.heap.size = go at *
  have hgo1 : go < w1.heap.size := hblk.lt
  have hB1 : B ≤ w1.heap.size := by omega
  have c0 := hblk.cell 0
  have c1 := hblk.cell 1
  have c2 := hblk.cell 2
  have c3 := hblk.cell 3
  have c4 := hblk.cell 4
  have c5 := hblk.cell 5
  simp only [List.getElem?_cons_zero, List.getElem?_cons_succ] at c0 c1 c2 c3 c4 c5
  have q0 : w1.cell? ⟨q, 0, none⟩ = some (.pointer (some ⟨a, 0, none⟩)) := hb0.qb.cell 0
  have q1 : w1.cell? ⟨q, 1, none⟩ = some (.pointer (some ⟨g, 0, none⟩)) := hb0.qb.cell 1
  have HB1 := Lib.hid hb0
  have HP1 := Lib.hid hp0
  have HBk := Lib.hid hblk
  clear hb0 hp0 hblk
  go_wp2_with fail
  refine CP.out.mono ?_
  clear CP
  rintro e w2 ⟨rfl, rfl⟩
  have q3 : w1.cell? ⟨q, 3, none⟩ = some px := HB1.out.qb.cell 3
  have CP2 := Lib.hid (place_any o.kind 7 w1 ho.kind.1 ho.kind.2 (by omega))
  rw [hkind] at CP2
  rcases HP1.out with ⟨rfl, rfl⟩ | ⟨_, _, _, _, _, _, rfl, rfl, _⟩
  · clear c0 c1 c2 c3 c4 c5 q0 q1 CP2
    go_wp2_with fail
    go_ret
    exact ⟨rfl, D, fd, _, _, _, HB1.out, HP1.out, hB0, Nat.le_add_right _ _, Nat.le_add_right _ _⟩
  · rename_i p x _ _ _ _ _
    obtain ⟨Al, cl, rfl, hlc, hlm, hRl⟩ := hv1.l
    obtain ⟨ll, hl1⟩ : ∃ ll, o.l.length = ll := ⟨_, rfl⟩
    rw [hl1] at hlc hRl hll HBk c4
    have HLS := Lib.hid (show ∀ l ∈ o.l, l.length ≤ 1099511627776 from fun r hr => by
      have : r.length ≤ o.l.flatten.length := by
        obtain ⟨i, hi, rfl⟩ := List.getElem_of_mem hr
        have h1 := congrArg List.length (congrArg List.flatten (List.take_append_drop i o.l))
        rw [List.drop_eq_getElem_cons hi, List.flatten_append, List.flatten_cons, List.length_append, List.length_append] at h1
        omega
      omega)
    have CT := Lib.hid (twins_apart Al ll cl o.l w1 (hRl.more hB1) (by omega) HLS.out)
    clear c1 c2 c3 c5 q0 q1
    try rw [hl1]
    go_wp2_with fail
    refine CP2.out.mono ?_
    clear CP2
    rintro e w2 ⟨rfl, rfl⟩
    go_wp2_with fail
    refine CT.out.mono ?_
    clear CT
    rintro e y0 ⟨AT, nT, cT, xs, rfl, hxs, hnT, hOT, hTT, hX, hAp⟩
    obtain rfl : ll = nT := by omega
    obtain ⟨hb0, hp0⟩ := unlabs HB1.out HP1.out (Nat.le_refl w1.heap.size)
    have H1 := Lib.hid ((hb0.below hX).same (w' := y0.drew) (fun _ _ _ => rfl))
    have HP2 := Lib.hid ((hp0.below hb0 hX).same (w' := y0.drew) (Nat.le_refl _) H1.out.r (fun _ _ _ => rfl))
    have hgl : (fun k => if w1.heap.size ≤ k then 0 else lab k) go = 0 := (if_neg (by omega)).trans hgo0
    have hnl : ∀ k, w1.heap.size ≤ k → (fun k => if w1.heap.size ≤ k then 0 else lab k) k = 0 := fun k hk => if_pos hk
    generalize (fun k => if w1.heap.size ≤ k then 0 else lab k) = lab1 at *
    have hgo3 : go < y0.drew.heap.size := Nat.lt_of_lt_of_le hgo1 hX.size
    have c4' : y0.drew.cell? ⟨go, 4, none⟩ = some (.slice Al ll cl) := (hX.cell (p := ⟨go, 4, none⟩) hgo1).trans c4
    have hRl2 : RdS y0 B Al ll o.l := hRl.below (hX.mono hB1)
    have hB02 : Below B w y0.drew := (hB0.trans (hX.mono hB1)).drew
    have hB2 : B ≤ y0.drew.heap.size := Nat.le_trans hB1 hX.size
    have hgtB : B ≤ w1.heap.size := hB1
    clear hb0 hp0 hX q3 hRl hv1 c0 c4
    generalize w1.heap.size = n1 at *
    rcases HP2.out with ⟨h1, _⟩ | ⟨p', x', base, X, fw, v, e1, e2, hw, hfw, hW, hbs, hx4, hv4, hF, hfile⟩
    · cases h1
    simp only [Value.pointer.injEq, Option.some.injEq, Addr.mk.injEq, and_true] at e1 e2
    obtain rfl := e1
    obtain rfl := e2
    have hL : wal.Log y0.drew p a X D fw fd := ⟨hw, H1.out.d, fun k h3 h1 => by have := hfw k h3; have := H1.out.ld k h1; omega⟩
    have HFW := Lib.hid hfw
    have HW1 := Lib.hid hW
    have HX4 := Lib.hid hx4
    have HV4 := Lib.hid hv4
    have HFL := Lib.hid (wal.IsWal.lt hw)
    have HBS := Lib.hid hbs
    have HFit := Lib.hid hF
    have HFile := Lib.hid hfile
    -- what stays where nothing that has a number turned
    have hown : ∀ W : World, (∀ k, lab1 k ≠ 1 → lab1 k ≠ 2 → lab1 k ≠ 3 → lab1 k ≠ 4 → k < y0.drew.heap.size → W.heap[k]? = y0.drew.heap[k]?) → OwnV 35 W n1 (.slice AT ll cT) xs := fun W hW => by
      refine ⟨hOT.1, ?_⟩
      rcases hOT.2 with hn | ⟨k, cap, cur, he, hb, hc, r⟩
      · exact .inl hn
      · have h0 := hnl k hb
        exact .inr ⟨k, cap, cur, he, hb, (hW k (by omega) (by omega) (by omega) (by omega) (Array.getElem?_eq_some_iff.1 hc).1).trans hc, r⟩
    have htw : ∀ W : World, (∀ k, lab1 k ≠ 1 → lab1 k ≠ 2 → lab1 k ≠ 3 → lab1 k ≠ 4 → k < y0.drew.heap.size → W.heap[k]? = y0.drew.heap[k]?) → TwinsOf W n1 xs o.l := fun W hW j x l hx hl => by
      obtain ⟨k, e, hT, hk⟩ := hTT j x l hx hl
      have h0 := hnl k hk
      exact ⟨k, e, (hW k (by omega) (by omega) (by omega) (by omega) hT.lt).trans hT, hk⟩
    have hrdl : ∀ W : World, (∀ k, lab1 k ≠ 1 → lab1 k ≠ 2 → lab1 k ≠ 3 → lab1 k ≠ 4 → k < y0.drew.heap.size → W.heap[k]? = y0.drew.heap[k]?) → y0.drew.heap.size ≤ W.heap.size → RdS W W.heap.size Al ll o.l := fun W hW hsz => by
      have hk : ∀ b o', b < B → W.cell? ⟨b, o', none⟩ = y0.cell? ⟨b, o', none⟩ := fun b o' hb => by
        have h0 := H1.out.lB b hb
        exact World.cell?_of_block (a := ⟨b, o', none⟩) (hW b (by omega) (by omega) (by omega) (by omega) (by omega))
      obtain ⟨ys, hV, hlen, hS⟩ := hRl2
      refine ⟨ys, (hV.keep hk).more (by omega), hlen, fun j y l hy hl => ?_⟩
      obtain ⟨A, c, e, h1, h2, hR⟩ := hS j y l hy hl
      exact ⟨A, c, e, h1, h2, (hR.keep hk).more (by omega)⟩
    have HST := Lib.hid (show ∀ W : World, (∀ k, lab1 k ≠ 1 → lab1 k ≠ 2 → lab1 k ≠ 3 → lab1 k ≠ 4 → k < y0.drew.heap.size → W.heap[k]? = y0.drew.heap[k]?) → y0.drew.heap.size ≤ W.heap.size → ((W.cell? ⟨q, 2, none⟩ = some (.pointer (some ⟨p, 0, none⟩)) ∧ W.cell? ⟨q, 3, none⟩ = some (.pointer (some ⟨x, 0, none⟩))) ∧ W.cell? ⟨go, 4, none⟩ = some (.slice Al ll cl)) ∧ OwnV 35 W n1 (.slice AT ll cT) xs ∧ TwinsOf W n1 xs o.l ∧ RdS W W.heap.size Al ll o.l from fun W hW hsz => by
      have h5 := H1.out.lq
      have hk := hW q (by omega) (by omega) (by omega) (by omega) H1.out.qb.lt
      have hko := hW go (by omega) (by omega) (by omega) (by omega) hgo3
      rw [World.cell?_of_block (a := ⟨q, 2, none⟩) hk, World.cell?_of_block (a := ⟨q, 3, none⟩) hk, World.cell?_of_block (a := ⟨go, 4, none⟩) hko]
      exact ⟨⟨⟨H1.out.qb.cell 2, H1.out.qb.cell 3⟩, c4'⟩, hown W hW, htw W hW, hrdl W hW hsz⟩)
    have HO1 := Lib.hid (show ∀ (y1 : World) {f' : Nat → Prop}, disk.Chg (wal.Or2 fw fd) f' y0.drew y1 → ∀ k, lab1 k ≠ 1 → lab1 k ≠ 2 → lab1 k ≠ 3 → lab1 k ≠ 4 → k < y0.drew.heap.size → y1.heap[k]? = y0.drew.heap[k]? from fun y1 f' hC k h1 h2 h3 h4 hk => hC.block k hk (fun hf => hf.elim (fun hf => h3 (hfw k hf)) (fun hf => h1 (H1.out.ld k hf))))
    have HO2 := Lib.hid (show ∀ (y1 y1' y2 : World) {f' : Nat → Prop} {v' : Value}, disk.Chg (wal.Or2 fw fd) f' y0.drew y1 → Below y1.heap.size y1 y1' → ref5.Chg (fpW x g v) (fpW x g v') y1' y2 → ∀ k, lab1 k ≠ 1 → lab1 k ≠ 2 → lab1 k ≠ 3 → lab1 k ≠ 4 → k < y0.drew.heap.size → y2.heap[k]? = y0.drew.heap[k]? from fun y1 y1' y2 f' v' hC hBt hC2 k h1 h2 h3 h4 hk => by
      have hk1 : k < y1.heap.size := Nat.lt_of_lt_of_le hk hC.size
      rw [hC2.block k (Nat.lt_of_lt_of_le hk1 hBt.size) (fun hf => by
        rcases hf with hf | hf | hf
        · exact h4 (by rw [hf]; exact hx4)
        · exact h2 (by rw [hf]; exact H1.out.lg)
        · exact h4 (hv4 k hf)), hBt.block k hk1]
      exact hC.block k hk (fun hf => hf.elim (fun hf => h3 (hfw k hf)) (fun hf => h1 (H1.out.ld k hf))))
    have hcap : ll ≤ cT ∧ cT ≤ maxLen := by
      obtain ⟨A, c, e, h1, h2, _⟩ := hOT.slice
      rw [hxs] at e h1
      simp only [Value.slice.injEq] at e
      omega
    have C1 := Lib.hid (wal.rewrite_any p a X D fw fd y0.drew hL H1.out.good (by omega) (by omega) hF hfile AT ll cT o.l (fun W hsz hk => by
      have hW : ∀ k, lab1 k ≠ 1 → lab1 k ≠ 2 → lab1 k ≠ 3 → lab1 k ≠ 4 → k < y0.drew.heap.size → W.heap[k]? = y0.drew.heap[k]? := fun k h1 h2 h3 h4 hlt => hk k hlt (fun hf => hf.elim (fun hf => h3 (hfw k hf)) (fun hf => h1 (H1.out.ld k hf)))
      obtain ⟨A, c, e, _, _, hV⟩ := (hown W hW).slice
      rw [hxs] at e hV
      simp only [Value.slice.injEq] at e
      obtain ⟨rfl, -, rfl⟩ := e
      exact ⟨xs, hV, hnT, fun j x l hx hl => by
        obtain ⟨k, e, hT, _⟩ := htw W hW j x l hx hl
        have hm := HLS.out l (List.mem_of_getElem? hl)
        exact ⟨_, _, e, by omega, by unfold maxLen; omega, hT.rd rfl hT.lt⟩⟩) ho.l hcap.1 hcap.2 (by omega))
    have C2 := Lib.hid (fun (y1 W : World) (A' : Option Addr) (c' : Nat) (hW : RefW W x g base X D v) (hO : OwnV 9 W y1.heap.size (.slice A' ll c') (o.l.map strV)) (hx : x < y1.heap.size) (hg : g < y1.heap.size) (hb : base ≤ W.heap.size) => ref5.rewrite_any x g base X D v W hW H1.out.good (by omega) hb hF A' ll c' o.l (by
      obtain ⟨A, c, e, _, _, hV⟩ := hO.slice
      rw [List.length_map, hnT] at e hV
      simp only [Value.slice.injEq] at e
      obtain ⟨rfl, -, rfl⟩ := e
      exact hV) (fun hn b o' e => by
        have := (hO.lt b (by rw [e]; rfl)).1
        omega) ho.l (by omega))
    have HN := Lib.hid (rewrite_near X D o.l H1.out.good (by omega) ho.l)
    have hs0 := HST.out y0.drew (fun _ _ _ _ _ _ => rfl) (Nat.le_refl _)
    clear hown htw hrdl hw hfw hW hbs hx4 hv4 hF hfile hL HP2 c4' hRl2 hOT hTT
    go_upto_region 28 with (fail)
    refine wp_region_held_drew (S := fun wq => (wq.cell? ⟨q, 2, none⟩ = some (.pointer (some ⟨p, 0, none⟩)) ∧ wq.cell? ⟨q, 3, none⟩ = some (.pointer (some ⟨x, 0, none⟩))) ∧ wq.cell? ⟨go, 4, none⟩ = some (.slice Al ll cl)) (by kernel_rfl) ?s_0 (fun hHeld => ?_)
    case s_0 => exact hs0.1
    clear hs0
    refine wpAnyH_take (i := 0) (oi := { dst := some 141, op := Go.Op.move (Go.Operand.tmp 0), type := 25, pos := "law.go:117", after := #[], guard := none }) (v := ?v_0_1) rfl (by kernel_rfl) (by kernel_rfl) (by kernel_rfl) (fun _ _ _ h => h) (Or.inl ⟨by rfl, ?y_0_1⟩) (by assumption) ?_
    case y_0_1 => (intro wq hSw; (try dsimp only at hSw); go_simp; first | done | with_reducible rfl)
    try simp only [Act.put, List.setIfInBounds_toArray, List.set_cons_zero, List.set_cons_succ]
    refine wpAnyH_take (i := 1) (oi := { dst := some 142, op := Go.Op.nilCheck (Go.Operand.tmp 141), type := 0, pos := "law.go:117", after := #[{ on := 0, ground := Go.Ground.data }], guard := none }) (v := ?v_1_1) rfl (by kernel_rfl) (by kernel_rfl) (by kernel_rfl) (fun _ _ _ h => h) (Or.inl ⟨by rfl, ?y_1_1⟩) (by assumption) ?_
    case y_1_1 => (intro wq hSw; (try dsimp only at hSw); go_simp; first | done | with_reducible rfl)
    try simp only [Act.put, List.setIfInBounds_toArray, List.set_cons_zero, List.set_cons_succ]
    refine wpAnyH_take (i := 2) (oi := { dst := some 143, op := Go.Op.fieldAddr 33 (Go.Operand.tmp 142) 2, type := 0, pos := "law.go:117", after := #[{ on := 1, ground := Go.Ground.data }], guard := none }) (v := ?v_2_1) rfl (by kernel_rfl) (by kernel_rfl) (by kernel_rfl) (fun _ _ _ h => h) (Or.inl ⟨by rfl, ?y_2_1⟩) (by assumption) ?_
    case y_2_1 => (intro wq hSw; (try dsimp only at hSw); go_simp; first | done | with_reducible rfl)
    try simp only [Act.put, List.setIfInBounds_toArray, List.set_cons_zero, List.set_cons_succ]
    refine wpAnyH_take (i := 3) (oi := { dst := some 144, op := Go.Op.load 30 (Go.Operand.tmp 143), type := 30, pos := "law.go:117", after := #[{ on := 2, ground := Go.Ground.data }], guard := none }) (v := ?v_3_1) rfl (by kernel_rfl) (by kernel_rfl) (by kernel_rfl) (fun _ _ _ h => h) (Or.inl ⟨by rfl, ?y_3_1⟩) (by assumption) ?_
    case y_3_1 => (intro wq hSw; (try dsimp only at hSw); go_simp; first | done | with_reducible rfl)
    try simp only [Act.put, List.setIfInBounds_toArray, List.set_cons_zero, List.set_cons_succ]
    refine wpAnyH_take (i := 4) (oi := { dst := some 145, op := Go.Op.move (Go.Operand.tmp 8), type := 36, pos := "law.go:117", after := #[], guard := none }) (v := ?v_4_1) rfl (by kernel_rfl) (by kernel_rfl) (by kernel_rfl) (fun _ _ _ h => h) (Or.inl ⟨by rfl, ?y_4_1⟩) (by assumption) ?_
    case y_4_1 => (intro wq hSw; (try dsimp only at hSw); go_simp; first | done | with_reducible rfl)
    try simp only [Act.put, List.setIfInBounds_toArray, List.set_cons_zero, List.set_cons_succ]
    refine wpAnyH_take (i := 6) (oi := { dst := some 147, op := Go.Op.move (Go.Operand.tmp 0), type := 25, pos := "law.go:117", after := #[], guard := none }) (v := ?v_6_1) rfl (by kernel_rfl) (by kernel_rfl) (by kernel_rfl) (fun _ _ _ h => h) (Or.inl ⟨by rfl, ?y_6_1⟩) (by assumption) ?_
    case y_6_1 => (intro wq hSw; (try dsimp only at hSw); go_simp; first | done | with_reducible rfl)
    try simp only [Act.put, List.setIfInBounds_toArray, List.set_cons_zero, List.set_cons_succ]
    refine wpAnyH_take (i := 7) (oi := { dst := some 148, op := Go.Op.nilCheck (Go.Operand.tmp 147), type := 0, pos := "law.go:117", after := #[{ on := 6, ground := Go.Ground.data }], guard := none }) (v := ?v_7_1) rfl (by kernel_rfl) (by kernel_rfl) (by kernel_rfl) (fun _ _ _ h => h) (Or.inl ⟨by rfl, ?y_7_1⟩) (by assumption) ?_
    case y_7_1 => (intro wq hSw; (try dsimp only at hSw); go_simp; first | done | with_reducible rfl)
    try simp only [Act.put, List.setIfInBounds_toArray, List.set_cons_zero, List.set_cons_succ]
    refine wpAnyH_take (i := 8) (oi := { dst := some 149, op := Go.Op.fieldAddr 33 (Go.Operand.tmp 148) 3, type := 0, pos := "law.go:117", after := #[{ on := 7, ground := Go.Ground.data }], guard := none }) (v := ?v_8_1) rfl (by kernel_rfl) (by kernel_rfl) (by kernel_rfl) (fun _ _ _ h => h) (Or.inl ⟨by rfl, ?y_8_1⟩) (by assumption) ?_
    case y_8_1 => (intro wq hSw; (try dsimp only at hSw); go_simp; first | done | with_reducible rfl)
    try simp only [Act.put, List.setIfInBounds_toArray, List.set_cons_zero, List.set_cons_succ]
    refine wpAnyH_take (i := 9) (oi := { dst := some 150, op := Go.Op.load 31 (Go.Operand.tmp 149), type := 31, pos := "law.go:117", after := #[{ on := 8, ground := Go.Ground.data }], guard := none }) (v := ?v_9_1) rfl (by kernel_rfl) (by kernel_rfl) (by kernel_rfl) (fun _ _ _ h => h) (Or.inl ⟨by rfl, ?y_9_1⟩) (by assumption) ?_
    case y_9_1 => (intro wq hSw; (try dsimp only at hSw); go_simp; first | done | with_reducible rfl)
    try simp only [Act.put, List.setIfInBounds_toArray, List.set_cons_zero, List.set_cons_succ]
    refine wpAnyH_take (i := 10) (oi := { dst := some 151, op := Go.Op.fieldAddr 39 (Go.Operand.tmp 3) 4, type := 0, pos := "law.go:117", after := #[], guard := none }) (v := ?v_10_1) rfl (by kernel_rfl) (by kernel_rfl) (by kernel_rfl) (fun _ _ _ h => h) (Or.inl ⟨by rfl, ?y_10_1⟩) (by assumption) ?_
    case y_10_1 => (intro wq hSw; (try dsimp only at hSw); go_simp; first | done | with_reducible rfl)
    try simp only [Act.put, List.setIfInBounds_toArray, List.set_cons_zero, List.set_cons_succ]
    refine wpAnyH_take (i := 11) (oi := { dst := some 152, op := Go.Op.load 36 (Go.Operand.tmp 151), type := 36, pos := "law.go:117", after := #[{ on := 10, ground := Go.Ground.data }], guard := none }) (v := ?v_11_1) rfl (by kernel_rfl) (by kernel_rfl) (by kernel_rfl) (fun _ _ _ h => h) (Or.inl ⟨by rfl, ?y_11_1⟩) (by assumption) ?_
    case y_11_1 => (intro wq hSw; (try dsimp only at hSw); go_simp; first | done | with_reducible rfl)
    try simp only [Act.put, List.setIfInBounds_toArray, List.set_cons_zero, List.set_cons_succ]
    refine wpAnyH_ready (rs := [5]) (by kernel_rfl) (by simp) ?_
    refine AllReadyH.cons (o := { dst := some 146, op := Go.Op.call { callee := Go.Callee.value (Go.Operand.func 22), args := #[Go.Operand.tmp 144, Go.Operand.tmp 145], argTypes := #[30, 36] }, type := 41, pos := "law.go:117", after := #[{ on := 3, ground := Go.Ground.data }, { on := 4, ground := Go.Ground.data }], guard := none }) rfl (fun KQ hKQ => ?_) AllReadyH.nil
    go_simp
    refine C1.out.mono ?_
    rintro e y1 ⟨fw1, fd1, rfl, hL1, hC1, hn1, hn2⟩
    have hs1 := HST.out y1 (HO1.out y1 hC1) hC1.size
    have hW1 := refw_kept H1.out HFW.out HW1.out HX4.out HV4.out hC1
    have C4 := Lib.hid (texts_any Al ll cl o.l y1 hs1.2.2.2 (by omega))
    clear C1
    go_wp2_with fail
    refine hKQ.out _ _ ?s_5 (fun hHeld5 => ?_)
    case s_5 => exact hs1.1
    clear hKQ KQ
    try simp only [Act.put, List.setIfInBounds_toArray, List.set_cons_zero, List.set_cons_succ]
    refine wpAnyH_ready (rs := [12]) (by kernel_rfl) (by simp) ?_
    refine AllReadyH.cons (o := { dst := some 153, op := Go.Op.call { callee := Go.Callee.value (Go.Operand.func 23), args := #[Go.Operand.tmp 152], argTypes := #[36] }, type := 44, pos := "law.go:117", after := #[{ on := 11, ground := Go.Ground.data }, { on := 5, ground := Go.Ground.chain }], guard := none }) rfl (fun KQ hKQ => ?_) AllReadyH.nil
    go_simp
    refine C4.out.mono ?_
    rintro e y1' ⟨A', c', rfl, hOt, hBt⟩
    have hs1t := HST.out y1' (fun k h1 h2 h3 h4 hk => (hBt.block k (Nat.lt_of_lt_of_le hk hC1.size)).trans (HO1.out y1 hC1 k h1 h2 h3 h4 hk)) (Nat.le_trans hC1.size hBt.size)
    have C5 := Lib.hid (C2.out y1 y1' A' c' (hW1.below hBt) hOt hW1.blk.lt hW1.ref.lt (Nat.le_trans HBS.out (Nat.le_trans hC1.size hBt.size)))
    clear C4 C2
    go_wp2_with fail
    refine hKQ.out _ _ ?s_12 (fun hHeld12 => ?_)
    case s_12 => exact hs1t.1
    clear hKQ KQ
    try simp only [Act.put, List.setIfInBounds_toArray, List.set_cons_zero, List.set_cons_succ]
    refine wpAnyH_ready (rs := [13]) (by kernel_rfl) (by simp) ?_
    refine AllReadyH.cons (o := { dst := some 154, op := Go.Op.call { callee := Go.Callee.value (Go.Operand.func 43), args := #[Go.Operand.tmp 150, Go.Operand.tmp 153], argTypes := #[31, 44] }, type := 41, pos := "law.go:117", after := #[{ on := 9, ground := Go.Ground.data }, { on := 12, ground := Go.Ground.data }, { on := 12, ground := Go.Ground.chain }], guard := none }) rfl (fun KQ hKQ => ?_) AllReadyH.nil
    go_simp
    refine C5.out.mono ?_
    rintro e y2 ⟨v', rfl, hW2, hC2⟩
    have hO2 := HO2.out y1 y1' y2 hC1 hBt hC2
    have hs2 := HST.out y2 hO2 (Nat.le_trans hC1.size (Nat.le_trans hBt.size hC2.size))
    have C6 := Lib.hid (allkept_any AT ll cT xs Al cl o.l y2 _ hs2.2.1 hxs hs2.2.2.1 hs2.2.2.2 (by omega) HLS.out)
    clear C5
    go_wp2_with fail
    refine hKQ.out _ _ ?s_13 (fun hHeld13 => ?_)
    case s_13 => exact hs2.1
    clear hKQ KQ
    try simp only [Act.put, List.setIfInBounds_toArray, List.set_cons_zero, List.set_cons_succ]
    refine wpAnyH_take (i := 14) (oi := { dst := some 155, op := Go.Op.binOp Go.BinOp.eql 41 (Go.Operand.tmp 146) (Go.Operand.tmp 154) 41, type := 4, pos := "law.go:117", after := #[{ on := 5, ground := Go.Ground.data }, { on := 13, ground := Go.Ground.data }], guard := none }) (v := ?v_14_1) rfl (by kernel_rfl) (by kernel_rfl) (by kernel_rfl) (fun _ _ _ h => h) (Or.inl ⟨by rfl, ?y_14_1⟩) (by assumption) ?_
    case y_14_1 => (intro wq hSw; (try dsimp only at hSw); go_simp; first | done | with_reducible rfl)
    try simp only [Act.put, List.setIfInBounds_toArray, List.set_cons_zero, List.set_cons_succ]
    refine wpAnyH_take (i := 15) (oi := { dst := some 156, op := Go.Op.move (Go.Operand.tmp 155), type := 4, pos := "law.go:117", after := #[{ on := 14, ground := Go.Ground.data }, { on := 13, ground := Go.Ground.chain }], guard := none }) (v := ?v_15_1) rfl (by kernel_rfl) (by kernel_rfl) (by kernel_rfl) (fun _ _ _ h => h) (Or.inl ⟨by rfl, ?y_15_1⟩) (by assumption) ?_
    case y_15_1 => (intro wq hSw; (try dsimp only at hSw); go_simp; first | done | with_reducible rfl)
    try simp only [Act.put, List.setIfInBounds_toArray, List.set_cons_zero, List.set_cons_succ]
    refine wpAnyH_take (i := 16) (oi := { dst := some 157, op := Go.Op.move (Go.Operand.tmp 8), type := 36, pos := "law.go:117", after := #[{ on := 15, ground := Go.Ground.guard }], guard := some (15, true) }) (v := ?v_16_1) rfl (by kernel_rfl) (by kernel_rfl) (by kernel_rfl) (fun _ _ _ h => h) (Or.inl ⟨by rfl, ?y_16_1⟩) (by assumption) ?_
    case y_16_1 => (intro wq hSw; (try dsimp only at hSw); go_simp; first | done | with_reducible rfl)
    try simp only [Act.put, List.setIfInBounds_toArray, List.set_cons_zero, List.set_cons_succ]
    refine wpAnyH_take (i := 17) (oi := { dst := some 158, op := Go.Op.fieldAddr 39 (Go.Operand.tmp 3) 4, type := 0, pos := "law.go:117", after := #[{ on := 15, ground := Go.Ground.guard }], guard := some (15, true) }) (v := ?v_17_1) rfl (by kernel_rfl) (by kernel_rfl) (by kernel_rfl) (fun _ _ _ h => h) (Or.inl ⟨by rfl, ?y_17_1⟩) (by assumption) ?_
    case y_17_1 => (intro wq hSw; (try dsimp only at hSw); go_simp; first | done | with_reducible rfl)
    try simp only [Act.put, List.setIfInBounds_toArray, List.set_cons_zero, List.set_cons_succ]
    refine wpAnyH_take (i := 18) (oi := { dst := some 159, op := Go.Op.load 36 (Go.Operand.tmp 158), type := 36, pos := "law.go:117", after := #[{ on := 17, ground := Go.Ground.data }, { on := 15, ground := Go.Ground.guard }], guard := some (15, true) }) (v := ?v_18_1) rfl (by kernel_rfl) (by kernel_rfl) (by kernel_rfl) (fun _ _ _ h => h) (Or.inl ⟨by rfl, ?y_18_1⟩) (by assumption) ?_
    case y_18_1 => (intro wq hSw; (try dsimp only at hSw); go_simp; first | done | with_reducible rfl)
    try simp only [Act.put, List.setIfInBounds_toArray, List.set_cons_zero, List.set_cons_succ]
    refine wpAnyH_ready (rs := [19]) (by kernel_rfl) (by simp) ?_
    refine AllReadyH.cons (o := { dst := some 160, op := Go.Op.call { callee := Go.Callee.value (Go.Operand.func 44), args := #[Go.Operand.tmp 157, Go.Operand.tmp 159], argTypes := #[36, 36] }, type := 4, pos := "law.go:117", after := #[{ on := 16, ground := Go.Ground.data }, { on := 18, ground := Go.Ground.data }, { on := 15, ground := Go.Ground.chain }, { on := 15, ground := Go.Ground.guard }], guard := some (15, true) }) rfl (fun KQ hKQ => ?_) AllReadyH.nil
    go_simp
    refine C6.out.mono ?_
    rintro e y3 ⟨rfl, hB3⟩
    have hO3 := fun (k : Nat) h1 h2 h3 h4 (hk : k < _) => (hB3.block k (Nat.lt_of_lt_of_le hk (Nat.le_trans hC1.size (Nat.le_trans hBt.size hC2.size)))).trans (hO2 k h1 h2 h3 h4 hk)
    have hs3 := HST.out y3 hO3 (Nat.le_trans (Nat.le_trans hC1.size (Nat.le_trans hBt.size hC2.size)) hB3.size)
    go_wp2_with fail
    refine hKQ.out _ _ ?s_19 (fun hHeld19 => ?_)
    case s_19 => exact hs3.1
    clear hKQ KQ
    try simp only [Act.put, List.setIfInBounds_toArray, List.set_cons_zero, List.set_cons_succ]
    refine wpAnyH_take (i := 20) (oi := { dst := some 161, op := Go.Op.pick (Go.Operand.tmp 156) (Go.Operand.tmp 160) (Go.Operand.const (Go.Value.bool false)), type := 4, pos := "law.go:117", after := #[{ on := 15, ground := Go.Ground.data }, { on := 19, ground := Go.Ground.data }], guard := none }) (v := ?v_20_1) rfl (by kernel_rfl) (by kernel_rfl) (by kernel_rfl) (fun _ _ _ h => h) (Or.inl ⟨by rfl, ?y_20_1⟩) (by assumption) ?_
    case y_20_1 => (intro wq hSw; (try dsimp only at hSw); go_simp; first | done | with_reducible rfl)
    try simp only [Act.put, List.setIfInBounds_toArray, List.set_cons_zero, List.set_cons_succ]
    refine wpAnyH_ready (rs := [21]) (by kernel_rfl) (by simp) ?_
    refine AllReadyH.cons (o := { dst := some 9, op := Go.Op.assign (Go.Operand.tmp 161), type := 4, pos := "law.go:117", after := #[{ on := 20, ground := Go.Ground.data }, { on := 19, ground := Go.Ground.chain }, { on := 0, ground := Go.Ground.phase }, { on := 1, ground := Go.Ground.phase }, { on := 2, ground := Go.Ground.phase }, { on := 3, ground := Go.Ground.phase }, { on := 4, ground := Go.Ground.phase }, { on := 5, ground := Go.Ground.phase }, { on := 6, ground := Go.Ground.phase }, { on := 7, ground := Go.Ground.phase }, { on := 8, ground := Go.Ground.phase }, { on := 9, ground := Go.Ground.phase }, { on := 10, ground := Go.Ground.phase }, { on := 11, ground := Go.Ground.phase }, { on := 12, ground := Go.Ground.phase }, { on := 13, ground := Go.Ground.phase }, { on := 14, ground := Go.Ground.phase }, { on := 15, ground := Go.Ground.phase }, { on := 16, ground := Go.Ground.phase }, { on := 17, ground := Go.Ground.phase }, { on := 18, ground := Go.Ground.phase }, { on := 19, ground := Go.Ground.phase }, { on := 20, ground := Go.Ground.phase }], guard := none }) rfl (fun KQ hKQ => ?_) AllReadyH.nil
    go_simp
    refine hKQ.out _ _ ?s_21 (fun hHeld21 => ?_)
    case s_21 => exact hs3.1
    clear hKQ KQ
    try simp only [Act.put, List.setIfInBounds_toArray, List.set_cons_zero, List.set_cons_succ]
    refine wpAnyH_done (by kernel_rfl) ?_ _
    have hT0 := (HST.out y0.drew (fun _ _ _ _ _ _ => rfl) (Nat.le_refl _)).2.2.1
    obtain ⟨⟨lab', hl', hb, hpp⟩, hbel⟩ := H1.out.logs hB2 HFW.out HW1.out HBS.out HX4.out HV4.out HFL.out hL1 hC1 hn1 hn2 hBt.size (fun k hk => hBt.block k hk) ⟨hBt.os, hBt.tape, hBt.output⟩ hW2 hC2 (HFit.out.rewrite ho.l) (keeps_file_rewrite HFile.out) HN.out.1
    have hs12 : y0.drew.heap.size ≤ y2.heap.size := Nat.le_trans hC1.size (Nat.le_trans hBt.size hC2.size)
    have hb3 := hb.below hB3
    have hp3 := hpp.below hb hB3
    have hbel3 : Below B y0.drew y3 := hbel.trans (hB3.mono (Nat.le_trans hB2 hs12))
    have hs13 : y0.drew.heap.size ≤ y3.heap.size := Nat.le_trans hs12 hB3.size
    have hlk := Lib.hid (fun k (h1 : n1 ≤ k) (h2 : k < y0.drew.heap.size) => (hl' k h2).trans (hnl k h1))
    have hO3' := hs3.2.1
    have hSt : Stand y3 n1 y0.drew.heap.size 0 xs o.l := fun i x l _ hx hl => by
      obtain ⟨k, e, hT, hk⟩ := hT0 i x l hx hl
      obtain ⟨k2, e2, hT2, _⟩ := hs3.2.2.1 i x l hx hl
      rw [e] at e2
      simp only [Value.slice.injEq, Option.some.injEq, Addr.mk.injEq, and_true] at e2
      obtain rfl := e2
      exact ⟨k, e, hT2, hk, hT.lt⟩
    have HAp := Lib.hid hAp
    have HI0 := Lib.hid (And.intro hb3 (And.intro hp3 (And.intro hbel3 (And.intro hO3' (And.intro hSt hs13)))))
    have HXS := Lib.hid hxs
    clear hb hpp hbel hW2 hC2 hL1 hC1 hn1 hn2 hW1 hHeld hHeld5 hHeld12 hHeld13 hHeld19 hHeld21 hl' HST HO1 HO2 hs1 hs1t hs2 hs3 hO2 hO3 C6 hOt hBt hB3 hT0 hb3 hp3 hbel3 hSt hO3' HFW HW1 HX4 HV4 HFL HBS hxs hAp hs12
    go_wp2_with fail
    go_loopw [10] (fun i wr => ∃ (j : Nat), j ≤ ll ∧ i = .int .i64 j ∧ Hid (BothD wr B q a g (rewriteO X D o.l).D fd1 (.pointer (some ⟨p, 0, none⟩)) (.pointer (some ⟨x, 0, none⟩)) lab' ∧ Part wr a g (rewriteO X D o.l).D (.pointer (some ⟨p, 0, none⟩)) (.pointer (some ⟨x, 0, none⟩)) lab' ∧ Below B y0.drew wr ∧ OwnV 35 wr n1 (.slice AT ll cT) xs ∧ Stand wr n1 y0.drew.heap.size j xs o.l ∧ y0.drew.heap.size ≤ wr.heap.size)) (fun i _ => ll - (intOf i).toNat)
    case atStart => exact ⟨0, by omega, rfl, HI0⟩
    case round =>
      obtain ⟨j, hj, rfl, HI⟩ := hrel
      clear HI0
      by_cases hlt : j < ll
      · obtain ⟨hbw, hpw, hbew, hOw, hSw, hsw⟩ := HI.out
        obtain ⟨Av, cv, ev, _, _, hV⟩ := hOw.slice
        rw [HXS.out] at ev hV
        simp only [Value.slice.injEq] at ev
        obtain ⟨rfl, -, rfl⟩ := ev
        obtain ⟨bv, ov, u, rfl, hu, hcu⟩ := hV.at_ hlt
        obtain ⟨l, hl⟩ : ∃ l, o.l[j]? = some l := ⟨_, List.getElem?_eq_getElem (by omega)⟩
        obtain ⟨k, rfl, hT, hk1, hk2⟩ := hSw j u l (Nat.le_refl _) hu hl
        have hll2 := HLS.out l (List.mem_of_getElem? hl)
        have E1 := Lib.hid (spoil_any (some ⟨k, 0, none⟩) l.length (l.length + 3) l wr k (twin_own hT hll2))
        have HN2 := Lib.hid (fun (z1 : World) (hG' : wr.grownBy z1 (some k)) => by
          have hk0 := hlk.out k hk1 hk2
          have hb4 := hbw.same (w' := z1) (fun i hk hlt => hG'.block i hlt (by intro e; exact hk (by rw [Option.some.inj e]; exact hk0)))
          have hp4 := hpw.same (w' := z1) hG'.size hb4.r (fun i hk hlt => hG'.block i hlt (by intro e; have h0 := Option.some.inj e; subst h0; omega))
          have hbz := below_grown (Below.refl B wr) hG' (Nat.le_trans hgtB hk1) (Nat.le_trans hB2 hsw)
          exact (show BothD z1 B q a g (rewriteO X D o.l).D fd1 (.pointer (some ⟨p, 0, none⟩)) (.pointer (some ⟨x, 0, none⟩)) lab' ∧ Part z1 a g (rewriteO X D o.l).D (.pointer (some ⟨p, 0, none⟩)) (.pointer (some ⟨x, 0, none⟩)) lab' ∧ Below B y0.drew z1 ∧ OwnV 35 z1 n1 (.slice (some ⟨bv, ov, none⟩) ll cT) xs ∧ Stand z1 n1 y0.drew.heap.size (j + 1) xs o.l ∧ y0.drew.heap.size ≤ z1.heap.size from
            ⟨hb4, hp4, hbew.trans hbz, own_spoiled hOw hT hG', hSw.next HAp.out hu hG', Nat.le_trans hsw hG'.size⟩))
        clear hbw hpw hbew hOw hSw hV hu hl hT hll2 HI
        go_wp2_with fail
        refine E1.out.mono ?_
        rintro e z1 ⟨rfl, hG⟩
        have HI2 := Lib.hid (HN2.out z1 hG)
        clear hG E1 HN2
        go_wp2_with fail
        go_roundw
        case rel => exact ⟨j + 1, by omega, by go_num, HI2⟩
        case measure => simp [intOf]; omega
      · obtain rfl : j = ll := by omega
        go_wp2_with fail
        go_ret
        exact ⟨by simp, _, _, _, _, lab', HI.out.1, HI.out.2.1, hB02.trans HI.out.2.2.1, by have := HN.out.2.1; omega, by have := HN.out.2.2; omega⟩
end
end Go.Proofs.Ytafdgibkhefplaa.law5
