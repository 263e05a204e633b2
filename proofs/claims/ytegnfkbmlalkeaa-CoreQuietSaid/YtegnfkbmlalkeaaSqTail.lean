/- A region that draws its order and ends in stores that wait for all else: what it reads is read ahead of them, whatever the order. It speaks of no program. -/
import Derived.Deep.RegionHeld3
import Derived.Test.YtegnfkbmlalkeaaSqJ0
namespace Go.Proofs.Ytegnfkbmlalkeaa.tail
open Go
set_option linter.unusedVariables false
section
variable {P : Program} {ops : Array Oper} {Q : Exit → Act → World → Prop} {md : Region.Mode} {S : World → Prop} {F : List Nat}
def AnyT (P : Program) (md : Region.Mode) (ops : Array Oper) (Q : Exit → Act → World → Prop) (S : World → Prop) (F : List Nat) : Nat → Array Bool → Act → World → Prop
 | 0, done, a, w => Region.ready md ops done = [] ∧ Q .normal a w
 | n + 1, done, a, w => (Region.ready md ops done = [] → Q .normal a w) ∧
     ∀ i ∈ Region.ready md ops done, wpOp P ops Q i (fun b u => (i ∈ F ∨ S u) ∧ AnyT P md ops Q S F n (done.setIfInBounds i true) b u) a w
theorem AnyT.plain : ∀ (n : Nat) (done : Array Bool) (a : Act) (w : World), AnyT P md ops Q S F n done a w → wpAny P md ops Q n done a w := by
 intro n
 induction n with
 | zero => exact fun _ _ _ h => h
 | succ n ih => exact fun _ _ _ h => ⟨h.1, fun i hi => wpOp_mono (fun b u hb => ih _ _ _ hb.2) (h.2 i hi)⟩
def reach (md : Region.Mode) (ops : Array Oper) (i : Nat) : Nat → Nat → Bool
 | 0, _ => false
 | n + 1, j => match ops[j]? with
   | some o => o.after.any fun e => Region.binds md e && (e.on == i || reach md ops i n e.on)
   | none => false
def waits (md : Region.Mode) (ops : Array Oper) (F : List Nat) (i : Nat) : Bool := F.all fun j => reach md ops i ops.size j
def Closed (md : Region.Mode) (ops : Array Oper) (done : Array Bool) : Prop :=
 ∀ j o, ops[j]? = some o → done.getD j false = true → ∀ e ∈ o.after, Region.binds md e = true → done.getD e.on false = true
def closedB (md : Region.Mode) (ops : Array Oper) (done : Array Bool) : Bool := (List.range ops.size).all fun j => match ops[j]? with
 | some o => !done.getD j false || o.after.all fun e => !Region.binds md e || done.getD e.on false
 | none => true
theorem Closed.of {done : Array Bool} (h : closedB md ops done = true) : Closed md ops done := by
 intro j o ho hd e he hb
 have h1 := List.all_eq_true.1 h j (List.mem_range.2 (Array.getElem?_eq_some_iff.1 ho).1)
 simp only [ho, hd, Bool.not_true, Bool.false_or] at h1
 have h2 := Array.all_eq_true_iff_forall_mem.1 h1 e he
 simpa [hb] using h2
theorem Closed.set {done : Array Bool} {i : Nat} (h : Closed md ops done) (hi : i ∈ Region.ready md ops done) : Closed md ops (done.setIfInBounds i true) := by
 intro j o ho hd e he hb
 by_cases hij : i = j
 · subst hij
   obtain ⟨_, o', ho', hall⟩ := mem_ready.1 hi
   rw [ho] at ho'
   obtain rfl := Option.some.inj ho'
   exact getD_set_true (hall e he hb)
 · rw [getD_set_ne false hij] at hd
   exact getD_set_true (h j o ho hd e he hb)
theorem reached {i : Nat} {done : Array Bool} (hC : Closed md ops done) : ∀ (n j : Nat) (o : Oper), ops[j]? = some o → (∀ e ∈ o.after, Region.binds md e = true → done.getD e.on false = true) → reach md ops i n j = true → done.getD i false = true := by
 intro n
 induction n with
 | zero => intro j o _ _ h; cases h
 | succ n ih =>
   intro j o ho hd h
   simp only [reach, ho] at h
   obtain ⟨k, hk, hk2⟩ := Array.any_eq_true.1 h
   simp only [Bool.and_eq_true, Bool.or_eq_true, beq_iff_eq] at hk2
   obtain ⟨hb, hk3⟩ := hk2
   have hdone := hd _ (Array.getElem_mem hk) hb
   rcases hk3 with hk3 | hk3
   · rw [← hk3]; exact hdone
   · cases ho2 : ops[o.after[k].on]? with
     | none => cases n <;> simp [reach, ho2] at hk3
     | some o2 => exact ih _ o2 ho2 (fun e he hb2 => hC _ o2 ho2 hdone e he hb2) hk3
theorem take_go {i : Nat} {o : Oper} {v : Value} (ho : ops[i]? = some o) (hs : Region.noSelect ops = true) (hF : waits md ops F i = true)
   (hQ : ∀ c a w, Q (.panic c) (a.put o.dst v) w → Q (.panic c) a w) : ∀ (n : Nat) (done : Array Bool) (a : Act) (w : World), Closed md ops done →
   (∀ j oj, ops[j]? = some oj → j ≠ i → done.getD j true = false → (∀ e ∈ oj.after, Region.binds md e = true → e.on ≠ i) → o.apart ops oj = true) →
   i ∈ Region.ready md ops done → YieldsIf P ops S o v a → S w → AnyT P md ops Q S F n (done.setIfInBounds i true) (a.put o.dst v) w → AnyT P md ops Q S F (n + 1) done a w := by
 intro n
 induction n with
 | zero =>
   intro done a w hC hap hr hy hS h
   refine ⟨fun h0 => absurd hr (by rw [h0]; simp), fun j hj => ?_⟩
   by_cases hji : j = i
   · rw [hji]; exact hy.wpOp ho hS ⟨.inr hS, h⟩
   · exact absurd (ready_mono hj hji) (by rw [h.1]; simp)
 | succ n ih =>
   intro done a w hC hap hr hy hS h
   refine ⟨fun h0 => absurd hr (by rw [h0]; simp), fun j hj => ?_⟩
   by_cases hji : j = i
   · rw [hji]; exact hy.wpOp ho hS ⟨.inr hS, h⟩
   obtain ⟨hun, oj, hoj, hdep⟩ := mem_ready.1 hj
   have hui := (mem_ready.1 hr).1
   -- what may come up now does not wait for i
   have hfree : ∀ e ∈ oj.after, Region.binds md e = true → e.on ≠ i := by
     intro e he hb heq
     have h1 := hdep e he hb
     rw [heq] at h1
     rcases Nat.lt_or_ge i done.size with hlt | hge
     · simp [hlt] at hui h1
       rw [hui] at h1
       cases h1
     · simp [Array.getElem?_eq_none hge] at h1
   have hnF : j ∉ F := fun hjF => by
     have h1 := reached hC ops.size j oj hoj hdep (List.all_eq_true.1 hF j hjF)
     rcases Nat.lt_or_ge i done.size with hlt | hge
     · simp [hlt] at hui h1
       rw [hui] at h1
       cases h1
     · simp [Array.getElem?_eq_none hge] at h1
   have h2 := wpOp_putIf hoj (hap j oj hoj hji hun hfree) (fun cs b => Region.noSelect_spec hs i o cs b ho) (fun cs b => Region.noSelect_spec hs j oj cs b hoj) hQ hy (h.2 j (ready_mono hj hji))
   refine wpOp_mono ?_ h2
   rintro b u ⟨hyb, hSu, hb⟩
   have hSu' : S u := hSu.resolve_left hnF
   refine ⟨.inr hSu', ih _ _ _ (hC.set hj) (fun k ok hok hki hk hno => ?_) (ready_mono hr (fun h => hji h.symm)) hyb hSu' (by rw [Array.setIfInBounds_comm _ _ hji]; exact hb)⟩
   refine hap k ok hok hki ?_ hno
   by_cases hjk : j = k
   · rw [← hjk]; exact hun
   · rw [← getD_set_ne true hjk]; exact hk
theorem take {i : Nat} {oi : Oper} {v : Value} {n : Nat} {done : Array Bool} {a : Act} {w : World} (hi : ops[i]? = some oi)
   (hs : Region.noSelect ops = true) (hf : Region.free md ops done i = true) (hr : (Region.ready md ops done).contains i = true)
   (hQ : ∀ c a w, Q (.panic c) (a.put oi.dst v) w → Q (.panic c) a w) (hy : YieldsIf P ops S oi v a) (hS : S w) (hF : waits md ops F i = true) (hC : closedB md ops done = true)
   (h : AnyT P md ops Q S F n (done.setIfInBounds i true) (a.put oi.dst v) w) : AnyT P md ops Q S F (n + 1) done a w :=
 take_go hi hs hF hQ n done a w (Closed.of hC) (Region.free_spec hi hf) (by simpa using hr) hy hS h
theorem next {i : Nat} {o : Oper} {n : Nat} {done : Array Bool} {a : Act} {w : World} (ho : ops[i]? = some o) (hr : Region.ready md ops done = [i])
   (h : ∀ K : Act → World → Prop, Shut (∀ b u, (i ∈ F ∨ S u) → AnyT P md ops Q S F n (done.setIfInBounds i true) b u → K b u) →
     if Region.wanted o (yielded ops a.tmps) = true then Oper.wp P o a w K Q else K (a.put o.dst undef) w) : AnyT P md ops Q S F (n + 1) done a w := by
 refine ⟨fun h0 => (by rw [hr] at h0; cases h0), fun j hj => ?_⟩
 rw [hr] at hj
 obtain rfl := List.mem_singleton.1 hj
 exact wpOp_step ho (fun K hK => h K (fun b u h1 h2 => hK b u ⟨h1, h2⟩))
theorem done {l : Array Bool} {a : Act} {w : World} (hr : Region.ready md ops l = []) (h : Q .normal a w) : ∀ n, AnyT P md ops Q S F n l a w
 | 0 => ⟨hr, h⟩
 | _ + 1 => ⟨fun _ => h, by rw [hr]; simp⟩
theorem region {id : Nat} {a : Act} {w : World} (F : List Nat) (hm : P.follows .mixedOrders = true) (hS : S w.drew)
   (h : S w.drew → AnyT P .any ops Q S F ops.size (Array.replicate ops.size false) a w.drew) : (Code.region id ops true).wp P Q a w :=
 wp_region_any hm (AnyT.plain _ _ _ _ (h hS))
end
end Go.Proofs.Ytegnfkbmlalkeaa.tail
namespace Go.Proofs.Ytegnfkbmlalkeaa.tail
open Go Go.Proofs.Ytegnfkbmlalkeaa.kit
section
variable {P : Program} {md : Region.Mode} {ops : Array Oper} {Q : Exit → Act → World → Prop} {S : World → Prop} {F : List Nat}
theorem tt (i : Nat) {oi : Oper} {v : Value} {n : Nat} {done : Array Bool} {a : Act} {w : World} (hy : ∀ w, S w → (execOp a.eval oi).run P w = .ok (.value v) w) (h : AnyT P md ops Q S F n (done.setIfInBounds i true) (a.put oi.dst v) w) (hi : oprAt ops.toList i = some oi := by rfl)
    (hs : Region.noSelect ops = true := by kernel_rfl) (hf : Region.free md ops done i = true := by kernel_rfl) (hr : (Region.ready md ops done).contains i = true := by kernel_rfl)
    (hQ : ∀ c a w, Q (.panic c) (a.put oi.dst v) w → Q (.panic c) a w := by exact fun _ _ _ h => h) (hw : Region.wanted oi (yielded ops a.tmps) = true := by rfl) (hS : S w := by assumption) (hF : waits md ops F i = true := by kernel_rfl) (hC : closedB md ops done = true := by kernel_rfl) : AnyT P md ops Q S F (n + 1) done a w :=
  take (oprAt_arr hi) hs hf hr hQ (Or.inl ⟨hw, hy⟩) hS hF hC h
theorem tn (i : Nat) {o : Oper} {n : Nat} {done : Array Bool} {a : Act} {w : World}
    (h : ∀ K : Act → World → Prop, Shut (∀ b u, (i ∈ F ∨ S u) → AnyT P md ops Q S F n (done.setIfInBounds i true) b u → K b u) →
      if Region.wanted o (yielded ops a.tmps) = true then Oper.wp P o a w K Q else K (a.put o.dst undef) w) (ho : oprAt ops.toList i = some o := by rfl) (hr : Region.ready md ops done = [i] := by kernel_rfl) : AnyT P md ops Q S F (n + 1) done a w := next (oprAt_arr ho) hr h
end
end Go.Proofs.Ytegnfkbmlalkeaa.tail

