/- Rows of slices that lie from a block on, and what the program's own log's leading, generation and isEnd come to. Conditions: those that each theorem names. -/
import Derived.Test.YtafdgibkhefplaaWl
import Derived.Test.YtafdgibkhefplaaKitSV
import Derived.Test.YtafdgibkhefplaaLaw0
namespace Go.Proofs.Ytafdgibkhefplaa.wal
open Go.RowKit Go.Proofs.Ytafdgibkhefplaa.kit Go.Proofs.Ytafdgibkhefplaa.nums Go.Proofs.Ytafdgibkhefplaa.ds Go.Proofs.Ytafdgibkhefplaa.disk Go.Proofs.Ytafdgibkhefplaa.ws Go.Proofs.Ytafdgibkhefplaa.rec_ Go.Proofs.Ytafdgibkhefplaa.bytes
set_option linter.unusedVariables false

/-- The slice reads as l, and lies in a block from base up to top. -/
def RdF (w : World) (base top : Nat) (A : Option Addr) (n : Nat) (l : List Int) : Prop :=
  l.length = n ∧ (0 < n → ∃ b o, A = some ⟨b, o, none⟩ ∧ base ≤ b ∧ b < top ∧ b < w.heap.size ∧ ∀ j, j < n → w.cell? ⟨b, o + j, none⟩ = some (.int .u8 (l.getD j 0)))
section
variable {w w' : World} {base top n : Nat} {A : Option Addr} {l : List Int}
theorem RdF.rd (h : RdF w base top A n l) : Rd w w.heap.size A n l := ⟨h.1, fun hn => by
  obtain ⟨b, o, e, _, _, hb, hc⟩ := h.2 hn
  exact ⟨b, o, e, hb, hc⟩⟩
theorem RdF.keep (h : RdF w base top A n l) (hs : w.heap.size ≤ w'.heap.size) (hk : ∀ k, base ≤ k → k < top → k < w.heap.size → w'.heap[k]? = w.heap[k]?) : RdF w' base top A n l := ⟨h.1, fun hn => by
  obtain ⟨b, o, e, h1, ht, hb, hc⟩ := h.2 hn
  exact ⟨b, o, e, h1, ht, by omega, fun j hj => (World.cell?_of_block (a := ⟨b, o + j, none⟩) (hk b h1 ht hb)).trans (hc j hj)⟩⟩
theorem RdF.more {base' top' : Nat} (h : RdF w base top A n l) (hb : base' ≤ base) (ht : top ≤ top') : RdF w base' top' A n l := ⟨h.1, fun hn => by
  obtain ⟨b, o, e, h1, h2, hb, hc⟩ := h.2 hn
  exact ⟨b, o, e, by omega, by omega, hb, hc⟩⟩
theorem RdF.nil (w : World) (base top : Nat) (A : Option Addr) : RdF w base top A 0 [] := ⟨rfl, fun h => absurd h (by omega)⟩
theorem RdF.drop (h : RdF w base top A n l) {p m : Nat} (hp : p ≤ n) (hm : n ≤ m) : ∃ A', Go.sliced A p n m 1 = .slice A' (n - p) (m - p) ∧ RdF w base top A' (n - p) (l.drop p) := by
  refine ⟨_, rfl, ?_⟩
  by_cases h0 : n - p = 0
  · rw [h0, List.drop_eq_nil_of_le (by rw [h.1]; omega)]; exact RdF.nil _ _ _ _
  · obtain ⟨b, o, rfl, h1, h2, hb, hc⟩ := h.2 (by omega)
    rw [if_neg (by omega)]
    refine ⟨by rw [List.length_drop, h.1], fun _ => ⟨b, o + p, by by_cases hp0 : p = 0 <;> simp [Addr.add, hp0], h1, h2, hb, fun j hj => ?_⟩⟩
    rw [Nat.add_assoc, hc (p + j) (by omega), List.getD_eq_getElem?_getD, List.getD_eq_getElem?_getD, List.getElem?_drop]
end
/-- The value is a slice that reads as l, and lies from base up to top. -/
def SlF (w : World) (base top : Nat) (x : Value) (l : List Int) : Prop := ∃ A c, x = .slice A l.length c ∧ l.length ≤ c ∧ c ≤ maxLen ∧ RdF w base top A l.length l
/-- A row of such. -/
def SsF (w : World) (base top : Nat) (xs : List Value) (L : List (List Int)) : Prop := ∀ (j : Nat) (x : Value) (l : List Int), xs[j]? = some x → L[j]? = some l → SlF w base top x l
section
variable {w w' : World} {base top : Nat} {x : Value} {l : List Int} {xs ys : List Value} {L M : List (List Int)}
theorem SlF.keep (h : SlF w base top x l) (hs : w.heap.size ≤ w'.heap.size) (hk : ∀ k, base ≤ k → k < top → k < w.heap.size → w'.heap[k]? = w.heap[k]?) : SlF w' base top x l := by
  obtain ⟨A, c, e, h1, h2, hR⟩ := h
  exact ⟨A, c, e, h1, h2, hR.keep hs hk⟩
theorem SlF.more {base' top' : Nat} (h : SlF w base top x l) (hb : base' ≤ base) (ht : top ≤ top') : SlF w base' top' x l := by
  obtain ⟨A, c, e, h1, h2, hR⟩ := h
  exact ⟨A, c, e, h1, h2, hR.more hb ht⟩
theorem SlF.sl (h : SlF w base top x l) : Sl w w.heap.size x l := by
  obtain ⟨A, c, e, h1, h2, hR⟩ := h
  exact ⟨A, c, e, h1, h2, hR.rd⟩
theorem SsF.keep (h : SsF w base top xs L) (hs : w.heap.size ≤ w'.heap.size) (hk : ∀ k, base ≤ k → k < top → k < w.heap.size → w'.heap[k]? = w.heap[k]?) : SsF w' base top xs L := fun j x l hx hl => (h j x l hx hl).keep hs hk
theorem SsF.below (h : SsF w base top xs L) (hB : Below top w w') : SsF w' base top xs L := h.keep hB.size (fun k _ hk _ => hB.block k hk)
theorem SsF.more {base' top' : Nat} (h : SsF w base top xs L) (hb : base' ≤ base) (ht : top ≤ top') : SsF w base' top' xs L := fun j x l hx hl => (h j x l hx hl).more hb ht
theorem SsF.nil : SsF w base top [] [] := fun j x l hx => by simp at hx
theorem SsF.append (h : SsF w base top xs L) (h' : SsF w base top ys M) (e : xs.length = L.length) : SsF w base top (xs ++ ys) (L ++ M) := fun j x l hx hl => by
  by_cases hj : j < xs.length
  · rw [List.getElem?_append_left hj] at hx
    rw [List.getElem?_append_left (by omega)] at hl
    exact h j x l hx hl
  · rw [List.getElem?_append_right (by omega)] at hx
    rw [List.getElem?_append_right (by omega), ← e] at hl
    exact h' _ x l hx hl
theorem SsF.drop (h : SsF w base top xs L) (p : Nat) : SsF w base top (xs.drop p) (L.drop p) := fun j x l hx hl => by
  rw [List.getElem?_drop] at hx hl
  exact h _ x l hx hl
theorem SsF.one (h : SlF w base top x l) : SsF w base top [x] [l] := fun j y m hy hm => by
  rcases j with _ | j
  · simp at hy hm; subst hy; subst hm; exact h
  · simp at hy
end
theorem RdV.drop {w : World} {B n : Nat} {A : Option Addr} {xs : List Value} (h : RdV w B A n xs) {p m : Nat} (hp : p ≤ n) (hm : n ≤ m) : ∃ A', Go.sliced A p n m 1 = .slice A' (n - p) (m - p) ∧ RdV w B A' (n - p) (xs.drop p) := by
  refine ⟨_, rfl, ?_⟩
  have hl := h.1
  by_cases h0 : n - p = 0
  · rw [h0, List.drop_eq_nil_of_le (by omega)]; exact RdV.nil _ _ _
  · obtain ⟨b, o, rfl, hb, hc⟩ := h.2 (by omega)
    rw [if_neg (by omega)]
    refine ⟨by rw [List.length_drop]; omega, fun _ => ⟨b, o + p, by by_cases hp0 : p = 0 <;> simp [Addr.add, hp0], hb, fun j hj => ?_⟩⟩
    rw [Nat.add_assoc, hc (p + j) (by omega), List.getElem?_drop]
section
variable {P : Program} {w : World} {ops : Array Oper} {rest : List Oper} {o : Oper} {a : Act} {Q : Exit → Act → World → Prop}
/-- 's[lo:]', as it is. -/
theorem wpList_slice_raw (hgd : o.guard = none) (s lo : Operand) (t : TypeId) (ho : o.op = .slice t s (some lo) none none) (e : TypeId) (ht : P.underlying t = some (.slice e)) (i : TypeInfo) (hi' : P.info? e = some i) (hz1 : i.size = 1)
    (A : Option Addr) (n c : Nat) (hs : a.eval s = .slice A n c) (kl : IntKind) (L : Int) (p : Nat) (hlo : a.eval lo = .int kl L) (hL : L = (p : Int)) (hpq : p ≤ n) (hnc : n ≤ c)
    (v : Value) (hv : Go.sliced A p n c 1 = v) (h : wpList P ops Q rest (a.put o.dst v) w) : wpList P ops Q (o :: rest) a w := by
  refine wpList_plain hgd fun K hK => ?_
  have he := elem_of ht
  have hrun := run_slice_l (P := P) w t A n c (by rw [he]; exact ht) kl L (by omega) (by omega)
  rw [he, run_sizeOf_one hi' hz1, hL, Int.toNat_natCast] at hrun
  have hat := run_sliceAt_slice (P := P) w t (.slice A n c) (some (.int kl L)) none none (by rw [he]; exact ht)
  rw [hL] at hat
  unfold Oper.wp execOp
  simp only [ho, Option.map_some, Option.map_none, hs, hlo, hL, Sem.run_bind, hat, hrun, Result.andThen_ok, Sem.run_pure, hv]
  exact hK _ _ h
end
/-- generation: what the first record tells. -/
theorem generation_any (A : Option Addr) (n c : Nat) (r : List Int) (w : World) (hR : Rd w w.heap.size A n r) (hY : Byt r) (hn : n ≤ 1099511627776) (hnc : n ≤ c) :
    Calls Try.prog 72 #[.slice A n c] w fun e w' => e = .returned (.int .u64 (genOf r)) ∧ w = w' := by
  have hl := hR.len
  by_cases h9 : n = 9
  case neg =>
    have HG := Lib.hid (show genOf r = 0 by unfold genOf; rw [if_neg (fun h => h9 (by omega))])
    have h9' : ((n : Int) != 9) = true := by simp; omega
    have h9'' : ¬ (n : Int) = 9 := by omega
    clear hR
    go_enter Try.func72, Try.ntmps72
    go_wp2_with fail
    go_ret
    rw [HG.out]
    exact ⟨rfl, rfl⟩
  subst h9
  obtain ⟨x, t, rfl⟩ : ∃ x t, r = x :: t := by
    rcases r with _ | ⟨x, t⟩
    · cases hl
    · exact ⟨x, t, rfl⟩
  obtain ⟨b9, o9, rfl, hb9, hc9⟩ := hR.2 (by omega)
  have ha9 := hc9 0 (by omega)
  rw [show (x :: t).getD 0 0 = x from rfl, Nat.add_zero] at ha9
  by_cases h71 : x = 71
  case neg =>
    have HG := Lib.hid (show genOf (x :: t) = 0 by unfold genOf; rw [if_neg (fun h => h71 (by simpa using h.2.1))])
    have h71' : (x != 71) = true := by simpa using h71
    clear hR hc9
    go_enter Try.func72, Try.ntmps72
    go_wp2_with fail
    go_ret
    rw [HG.out]
    exact ⟨rfl, rfl⟩
  subst h71
  have ht8 : t.length = 8 := by simpa using hl
  have hYt : Byt t := fun y hy => hY y (List.mem_cons_of_mem _ hy)
  have C2 := Lib.hid (get_ok (some ⟨b9, o9, none⟩) 9 c (71 :: t) 1 8 w _ hR hY (by omega) hnc (by omega) (by omega) (by omega))
  rw [show ((71 :: t).drop 1).take 8 = t by simp [← ht8]] at C2
  have hg0 := (beV_bound t hYt).1
  have HGen := Lib.hid (show genOf (71 :: t) = if 1 ≤ beV t ∧ beV t < 4611686018427387904 then beV t else 0 by
    unfold genOf
    by_cases hc : 1 ≤ beV t ∧ beV t < 4611686018427387904
    · rw [if_pos ⟨by simp [ht8], by simp, by simpa using hc.1, by simpa using hc.2⟩, if_pos hc]; rfl
    · rw [if_neg (fun h => hc ⟨by simpa using h.2.2.1, by simpa using h.2.2.2⟩), if_neg hc])
  generalize beV t = G at *
  clear hR hc9
  go_enter Try.func72, Try.ntmps72
  go_wp2_with fail
  refine C2.out.mono ?_
  rintro e w3 ⟨rfl, rfl⟩
  by_cases hbig : 4611686018427387903 < G
  · have HG := Lib.hid (HGen.out.trans (if_neg (by omega)))
    clear HGen C2
    go_wp2_with fail
    go_ret
    rw [HG.out]
    exact ⟨rfl, rfl⟩
  · have HG := Lib.hid (show genOf (71 :: t) = G by
      rw [HGen.out]
      by_cases hc : 1 ≤ G ∧ G < 4611686018427387904
      · rw [if_pos hc]
      · rw [if_neg hc]; omega)
    clear HGen C2
    go_wp2_with fail
    go_ret
    rw [HG.out]
    exact ⟨rfl, rfl⟩
/-- isEnd. -/
theorem isEnd_any (A : Option Addr) (n c : Nat) (r : List Int) (w : World) (hR : Rd w w.heap.size A n r) (hn : n ≤ 1099511627776) :
    Calls Try.prog 74 #[.slice A n c] w fun e w' => e = .returned (.bool (decide (r = [69]))) ∧ w = w' := by
  have hl := hR.len
  by_cases h1 : n = 1
  case neg =>
    have HG := Lib.hid (show decide (r = [69]) = false from decide_eq_false (fun e => h1 (by rw [← hl, e]; rfl)))
    have h1' : ((n : Int) == 1) = false := by simp; omega
    have h1'' : ¬ (n : Int) = 1 := by omega
    clear hR
    go_enter Try.func74, Try.ntmps74
    go_wp2_with fail
    go_ret
    rw [HG.out]
    exact ⟨rfl, rfl⟩
  subst h1
  obtain ⟨x, rfl⟩ := List.length_eq_one_iff.1 hl
  obtain ⟨b9, o9, rfl, hb9, hc9⟩ := hR.2 (by omega)
  have ha9 := hc9 0 (by omega)
  rw [show ([x] : List Int).getD 0 0 = x from rfl, Nat.add_zero] at ha9
  have HG := Lib.hid (show decide (([x] : List Int) = [69]) = (x == 69) by simp [Bool.beq_eq_decide_eq])
  clear hR hc9
  go_enter Try.func74, Try.ntmps74
  go_wp2_with fail
  go_ret
  rw [HG.out]
  exact ⟨rfl, rfl⟩
/-- The data of the records before the first one that holds none. -/
def lead : List (List Int) → List (List Int)
  | [] => []
  | r :: L => if r.head? = some 82 then r.tail :: lead L else []
theorem lead_len (L : List (List Int)) : (lead L).length ≤ L.length := by
  induction L with
  | nil => exact Nat.le_refl _
  | cons r L ih =>
    unfold lead
    split
    · simp; exact ih
    · simp
theorem lead_take : ∀ {L : List (List Int)} {j : Nat}, (∀ r ∈ L.take j, r.head? = some 82) → j ≤ L.length → (∀ r, L[j]? = some r → ¬ r.head? = some 82) → lead L = (L.take j).map List.tail := by
  intro L
  induction L with
  | nil => intro j _ _ _; simp [lead]
  | cons r L ih =>
    intro j h hj hn
    rcases j with _ | j
    · have := hn r rfl
      unfold lead
      rw [if_neg this]; rfl
    · have h0 := h r (by simp)
      unfold lead
      rw [if_pos h0, ih (j := j) (fun s hs => h s (by simp [hs])) (by simpa using hj) (fun s hs => hn s (by simpa using hs))]
      simp
theorem one_sl (A : Option Addr) (n c : Nat) : ∀ u ∈ [Value.slice A n c], u.oneCell' = true := by
  intro u hu; rw [List.mem_singleton] at hu; subst hu; rfl
set_option maxRecDepth 100000 in
set_option maxHeartbeats 1000000 in
theorem leading_any (base top : Nat) (A : Option Addr) (n c : Nat) (xs : List Value) (L : List (List Int)) (w : World) (hV : RdV w w.heap.size A n xs) (hL : L.length = n) (hS : SsF w base top xs L) (hb : top ≤ w.heap.size) (hn : n ≤ 1000000000) :
    Calls Try.prog 73 #[.slice A n c] w fun e w' => ∃ A' m c' ys, e = .returned (.slice A' m c') ∧ ys.length = m ∧ (lead L).length = m ∧ OwnV 35 w' w.heap.size (.slice A' m c') ys ∧ SsF w' base top ys (lead L) ∧ Below w.heap.size w w' := by
  have HV := Lib.hid hV
  have HS := Lib.hid hS
  have hxl : xs.length = n := hV.1
  clear hV hS
  go_enter Try.func73, Try.ntmps73
  go_wp2_with fail
  go_loopw [2, 7] (fun s i wr => ∃ (j : Nat) (A' : Option Addr) (c' : Nat) (ys : List Value), j ≤ n ∧ i = .int .i64 j ∧ s = .slice A' j c' ∧ Hid (ys.length = j) ∧ OwnV 35 wr w.heap.size (.slice A' j c') ys ∧ Hid (∀ r ∈ L.take j, r.head? = some 82) ∧ Hid (SsF wr base top ys ((L.take j).map List.tail)) ∧ Below w.heap.size w wr) (fun _ i _ => n - (intOf i).toNat)
  case atStart => exact ⟨0, none, 0, [], by omega, rfl, rfl, rfl, OwnV.nil _ _ _, by intro r hr; simp at hr, by rw [List.take_zero]; exact SsF.nil, Below.refl _ _⟩
  case round =>
    obtain ⟨j, A', c', ys, hj, rfl, rfl, hyl, hO, hh, hs, hB⟩ := hrel
    have hbr : top ≤ wr.heap.size := Nat.le_trans hb hB.size
    by_cases hlt : j < n
    case neg =>
      obtain rfl : j = n := by omega
      have HE := Lib.hid (lead_take (L := L) (j := j) hh.out (by omega) (fun r hr => by rw [List.getElem?_eq_none (by omega)] at hr; cases hr))
      go_wp2_with fail
      go_ret
      exact ⟨A', j, c', ys, rfl, hyl.out, by rw [HE.out, List.length_map, List.length_take]; omega, hO, by rw [HE.out]; exact hs.out, hB⟩
    obtain ⟨b, o, u, rfl, hu, hcell⟩ := (HV.out.below hB).at_ hlt
    obtain ⟨r, hr⟩ : ∃ r, L[j]? = some r := ⟨_, List.getElem?_eq_getElem (by omega)⟩
    obtain ⟨Aj, cj, rfl, hc1, hc2, hF⟩ := HS.out j u r hu hr
    have hFr := hF.keep hB.size (fun k _ _ hk => hB.block k hk)
    have i0 : (0 : Int) ≤ j ∧ (j : Int) < n := by omega
    have htk : L.take (j + 1) = L.take j ++ [r] := by rw [List.take_add_one, hr]; rfl
    rcases r with _ | ⟨x, t⟩
    · have HE := Lib.hid (lead_take (L := L) (j := j) hh.out (by omega) (fun r' h => by rw [hr] at h; cases h; simp))
      simp only [List.length_nil] at hcell
      clear hr htk hF hFr
      go_wp2_with fail
      go_ret
      exact ⟨A', j, c', ys, rfl, hyl.out, by rw [HE.out, List.length_map, List.length_take]; omega, hO, by rw [HE.out]; exact hs.out, hB⟩
    obtain ⟨b2, o2, rfl, hb2, hbt, hb3, hc3⟩ := hFr.2 (by simp)
    have ha := hc3 0 (by simp)
    rw [show (x :: t).getD 0 0 = x from rfl, Nat.add_zero] at ha
    simp only [List.length_cons] at hcell hc1 hF hFr hc3
    by_cases hx : x = 82
    case neg =>
      have HE := Lib.hid (lead_take (L := L) (j := j) hh.out (by omega) (fun r' h => by rw [hr] at h; cases h; simpa using hx))
      have hx' : (x != 82) = true := by simpa using hx
      have hne : (((t.length + 1 : Nat) : Int) == 0) = false := by simp; omega
      clear hr htk hF hFr
      go_wp2_with fail
      go_ret
      exact ⟨A', j, c', ys, rfl, hyl.out, by rw [HE.out, List.length_map, List.length_take]; omega, hO, by rw [HE.out]; exact hs.out, hB⟩
    subst hx
    obtain ⟨A5, e5, hF5⟩ := hFr.drop (p := 1) (m := cj) (by omega) hc1
    have hne : ((t.length : Int) + 1 == 0) = false := by simp; omega
    have hh2 : Hid (∀ r ∈ L.take (j + 1), r.head? = some 82) := by
      intro r hr
      rw [htk] at hr
      rcases List.mem_append.1 hr with h | h
      · exact hh.out r h
      · simp at h; rw [h]; rfl
    have hF6 : SlF wr base top (.slice A5 t.length (cj - 1)) t := ⟨A5, cj - 1, rfl, by omega, by unfold maxLen at *; omega, by simpa using hF5⟩
    have hO2 := hO.alloc (.cells #[.slice A5 t.length (cj - 1)] 35)
    have hBa : Below wr.heap.size wr (wr.alloc (.cells #[.slice A5 t.length (cj - 1)] 35)) := (Below.refl _ _).alloc (Nat.le_refl _) _
    have hss : SsF wr base top (ys ++ [.slice A5 t.length (cj - 1)]) ((L.take (j + 1)).map List.tail) := by
      rw [htk, List.map_append]
      exact SsF.append hs.out (SsF.one hF6) (by rw [hyl.out, List.length_map, List.length_take]; omega)
    have HSS := Lib.hid (hss.below (hBa.mono hbr))
    have HBa := Lib.hid (And.intro hB hBa)
    obtain ⟨v5, hv5⟩ : ∃ v5, Value.slice A5 t.length (cj - 1) = v5 := ⟨_, rfl⟩
    have hv : v5 = if cj = 1 then .slice (some ⟨b2, o2, none⟩) t.length 0 else .slice (some ⟨b2, o2 + 1, none⟩) t.length (cj - 1) := by
      rw [← hv5]
      unfold Go.sliced at e5
      simp only [Value.slice.injEq] at e5
      rw [← e5.1]
      by_cases hc : cj = 1
      · rw [if_pos hc, if_pos (by omega), hc]
      · rw [if_neg hc, if_neg (by omega)]; simp [Addr.add]
    have hv1 : v5.oneCell' = true := by rw [← hv5]; rfl
    rw [hv5] at hO2 HSS HBa hBa
    clear hv5 e5
    have hws := Nat.le_trans hB.size hBa.size
    clear hr htk hF hFr hF5 hF6 hss hh hs hc3 hBa
    have hj24 : (j + 1) * 24 ≤ 140737488355328 := by omega
    have hjm : j + 1 ≤ maxLen := by unfold maxLen; omega
    by_cases hcj : cj = 1
    · rw [if_pos hcj] at hv
      subst hcj
      subst hv
      obtain rfl : t = [] := List.eq_nil_of_length_eq_zero (by omega)
      simp only [List.length_nil, Nat.zero_add] at *
      go_wp2_with (at_builtin; with_reducible refine wpList_append_v rfl (.tmp 20) (.tmp 23) 36 rfl w.heap.size 35 (.slice none 0 0) 24 Try.underlying36 law0.infoB rfl A' j c' ys hyl.out rfl hO2 _ _ 1 1 [_] rfl (RdV.one _ _ _) (one_sl _ _ _) hj24 hjm hws ?_)
      intro A3 c3 w3 hO3 hB3 hG3
      have hss := HSS.out.below (hB3.mono hb)
      clear hO2 HSS
      go_wp2_with fail
      go_roundw
      case rel => exact ⟨j + 1, A3, c3, _, by omega, by go_num, rfl, by show _ = _; rw [List.length_append, hyl.out]; rfl, hO3, hh2, hss, (HBa.out.1.trans (HBa.out.2.mono HBa.out.1.size)).trans hB3⟩
      case measure => simp [intOf]; omega
    · rw [if_neg hcj] at hv
      subst hv
      go_wp2_with (at_builtin; with_reducible refine wpList_append_v rfl (.tmp 20) (.tmp 23) 36 rfl w.heap.size 35 (.slice none 0 0) 24 Try.underlying36 law0.infoB rfl A' j c' ys hyl.out rfl hO2 _ _ 1 1 [_] rfl (RdV.one _ _ _) (one_sl _ _ _) hj24 hjm hws ?_)
      intro A3 c3 w3 hO3 hB3 hG3
      have hss := HSS.out.below (hB3.mono hb)
      clear hO2 HSS
      go_wp2_with fail
      go_roundw
      case rel => exact ⟨j + 1, A3, c3, _, by omega, by go_num, rfl, by show _ = _; rw [List.length_append, hyl.out]; rfl, hO3, hh2, hss, (HBa.out.1.trans (HBa.out.2.mono HBa.out.1.size)).trans hB3⟩
      case measure => simp [intOf]; omega
end Go.Proofs.Ytafdgibkhefplaa.wal
