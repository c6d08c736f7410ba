import Derived.Test.YtgpjgjjadhmkhaaChecked
import Derived.WalkKit
import Derived.WalkSpells
import Derived.WalkLawsBesides
import Derived.ProofKit
import Derived.OpenShut
import Derived.ShutString
import Derived.SizedLaws
import Derived.JoinedCond
import Derived.Deep.DeepHandedRow
import Derived.LaidLaws
import Derived.SliceStrings
import Derived.Test.YtgpjgjjadhmkhaaStrRow
import Derived.Test.YtgpjgjjadhmkhaaRepGen
import Derived.Lib.SmallJoins
import Derived.ChangeSlices
import Derived.Test.YtgpjgjjadhmkhaaArgOwn
import Derived.Deep.Slices
import Derived.ChangeSame
/-
  The frame that every law of this program shares: behind the call nothing that was there has turned ('Below'), so arguments and named variables read as they did.
-/
namespace Go.Proofs.Ytgpjgjjadhmkhaa
open Go.ChangeShapes Go.WideShapes Go.ChangeAt Go.RowKit
namespace Frame
variable {H : Type} {enc : TypeId × Value → H} {P : Program}

theorem trodAll_stays (hl : laidOutB P = true) {W W' : World} (hb : Below W.heap.size W W') : ∀ {ts : List TypeId} {vs : List Value} {ds : List (DataW H)} {ps : List MemPlace},
    ts.all (fun t => P.readableRec t && decide (t < P.types.size)) = true → DataW.TrodAll enc P W 0 (fun _ => true) true ts vs ds ps → (∀ x ∈ ps, x.block < W.heap.size) →
    DataW.TrodAll enc P W' 0 (fun b => decide (b < W.heap.size)) true ts vs ds ps
  | [], [], [], ps, _, h, _ => h
  | t :: ts, v :: vs, d :: ds, ps, ha, h, hlt => by
    obtain ⟨p, q, h1, h2, rfl⟩ := h
    simp only [List.all_cons, Bool.and_eq_true, decide_eq_true_eq] at ha
    exact ⟨p, q, Below.trod hl ha.1.1 ha.1.2 h1 hb (fun x hx => hlt x (List.mem_append_left _ hx)), trodAll_stays hl hb ha.2 h2 (fun x hx => hlt x (List.mem_append_right _ hx)), rfl⟩
  | [], _ :: _, _, _, _, h, _ => h.elim
  | [], [], _ :: _, _, _, h, _ => h.elim
  | _ :: _, [], _, _, _, h, _ => h.elim
  | _ :: _, _ :: _, [], _, _, h, _ => h.elim

theorem trod_iface_any {t : TypeId} {ms : Array (String × TypeId)} (ht : P.underlying t = some (.interface ms)) {w w' : World} {sp sp' : Nat → Bool} {fuel : Nat} {cs : List Value} {x : DataW H × List MemPlace}
    (h : DataW.trod enc P w 0 sp true fuel t cs = some x) : DataW.trod enc P w' 0 sp' true fuel t cs = some x := by
  cases fuel with
  | zero => simp [DataW.trod] at h
  | succ n =>
    match cs, h with
    | [], h => simp [DataW.trod, ht] at h
    | [c], h => cases c <;> simp [DataW.trod, ht] at h ⊢ <;> exact h
    | _ :: _ :: _, h => simp [DataW.trod, ht] at h

/-- A named variable of an interface type. -/
def ifaceVar (P : Program) (n : String) : Bool :=
  match (P.globalNamed n).bind fun g => (P.globals[g]?).map (·.type) with
  | some t => match P.underlying t with | some (.interface _) => true | _ => false
  | none => false

theorem trodVars_stays {W W' : World} (hb : Below W.heap.size W W') {sp : Nat → Bool} : ∀ {ns : List String} {gs : List (DataW H)} {ps : List MemPlace},
    ns.all (ifaceVar P) = true → DataW.TrodVars enc P W (fun _ => true) ns gs ps → DataW.TrodVars enc P W' sp ns gs ps
  | [], [], _, _, h => h
  | n :: ns, d :: gs, ps, ha, h => by
    obtain ⟨g, t, cs, fuel, p, q, hg, ht, hv, hd, hr, rfl⟩ := h
    simp only [List.all_cons, Bool.and_eq_true] at ha
    obtain ⟨ha1, ha2⟩ := ha
    simp only [ifaceVar, hg, Option.bind_some, ht] at ha1
    split at ha1
    · rename_i ms hu
      have hgl : g < W.heap.size := by
        rcases Nat.lt_or_ge g W.heap.size with h' | h'
        · exact h'
        · simp [World.var?, hg, Array.getElem?_eq_none h'] at hv
      exact ⟨g, t, cs, fuel, p, q, hg, ht, var?_below hb hg hgl hv, trod_iface_any hu hd, trodVars_stays hb ha2 hr, rfl⟩
    · cases ha1
  | [], _ :: _, _, _, h => h.elim
  | _ :: _, [], _, _, h => h.elim

/-- THE LAST STEP OF A LAW: it returned true, and below the heap's old size nothing has turned. -/
theorem law_post {f : Func} {s : ChangeSpec} {apart fresh handsOn : Bool} {W W' : World} {args : Array Value} {ds gs : List (DataW H)} {before : List MemPlace} {tb : TypeId}
    (hl : laidOutB P = true) (hpar : f.params.toList.all (fun t => P.readableRec t && decide (t < P.types.size)) = true) (hvar : s.vars.all (ifaceVar P) = true)
    (hres : f.resultTypes = #[tb]) (htb : P.underlying tb = some .bool)
    (hW : DataW.Whole enc P f.params.toList s.vars apart W args.toList ds gs before)
    (hfn : s.fn H (ds ++ gs) = { results := [.lit (.bool true)], args := ds, vars := gs })
    (hb : Below W.heap.size W W') : s.post enc P f apart fresh handsOn false W args (.bool true) W' := by
  have hW' := hW
  obtain ⟨p, q, hA, hV, rfl, _, _⟩ := hW
  have hlt : ∀ x ∈ p ++ q, x.block < W.heap.size := fun x hx => hW'.lt x hx
  refine ⟨ds, gs, p ++ q, [], p, q, hW', ?_, ?_, ?_, hb.frame _, fun h => by cases h⟩
  · rw [hfn, hres]
    exact trodAll_mk1 (shut_bool htb true)
  · rw [hfn]
    exact trodAll_stays hl hb hpar hA (fun x hx => hlt x (List.mem_append_left _ hx))
  · rw [hfn]
    exact trodVars_stays hb hvar hV

/-- One named variable: its reading. -/
theorem vars_one {n : String} {W : World} {sp : Nat → Bool} {gs : List (DataW H)} {ps : List MemPlace} (h : DataW.TrodVars enc P W sp [n] gs ps) : ∃ g, gs = [g] := by
  match gs, h with
  | [g], _ => exact ⟨g, rfl⟩
  | [], h => exact h.elim
  | _ :: _ :: _, h => obtain ⟨_, _, _, _, _, _, _, _, _, _, h, _⟩ := h; exact h.elim

/-- A listed variable that reads as an interface value holds one. -/
theorem laid_iface {n nm : String} {d : DataW Unit} {r : List (String × DataW Unit)} {W : World} {g : Nat} {ti : TypeId} {ms : Array (String × TypeId)}
    (h : laidMet P ((n, .iface nm d) :: r) W) (hg : P.globalNamed n = some g) (ht : (P.globals[g]?).map (·.type) = some ti) (hi : P.underlying ti = some (.interface ms)) :
    ∃ u v, W.var? P n = some #[.iface u v] := by
  obtain ⟨ps, ⟨g0, t0, cs0, f0, p0, q0, hg0, ht0, hv0, hd0, _, e0⟩, _, _⟩ := h
  obtain rfl := Option.some.inj (hg.symm.trans hg0)
  obtain rfl := Option.some.inj (ht.symm.trans ht0)
  obtain ⟨l0⟩ := cs0
  cases f0 with
  | zero => simp [DataW.trod] at hd0
  | succ k =>
    match l0, hd0, hv0 with
    | [], hd0, _ => simp [DataW.trod, hi] at hd0
    | [c], hd0, hv0 => cases c <;> simp [DataW.trod, hi] at hd0 <;> exact ⟨_, _, hv0⟩
    | _ :: _ :: _, hd0, _ => simp [DataW.trod, hi] at hd0

/-- A slice of strings among the arguments: what it holds. -/
theorem open_strs {W : World} {t e : TypeId} {a : Option Addr} {len cap : Nat} {d : DataW H} {ps : List MemPlace} (hc : P.cellsOf e = 1) (ht : P.underlying t = some (.slice e)) (he : P.underlying e = some .string)
    (h : DataW.Trod enc P W 0 (fun _ => true) true t (.slice a len cap) d ps) (hlt : ∀ x ∈ ps, x.block < W.heap.size) :
    ∃ ss : List ByteArray, len = ss.length ∧ StrK.SRow W a ss ∧ ss.length ≤ 9223372036854775807 ∧ ∀ s ∈ ss, s.size ≤ 9223372036854775807 := by
  obtain ⟨fuel, hf⟩ := h
  rcases open_strings ht he hc hf with ⟨hcs, hx⟩ | ⟨a', len', cap', ss, hcs, _, hl, hm, hz, hx, hcell, hsz⟩
  · simp [Value.cells] at hcs
    obtain ⟨rfl, rfl, rfl⟩ := hcs
    exact ⟨[], rfl, fun h => absurd rfl h, by simp, fun s hs => by cases hs⟩
  · simp [Value.cells] at hcs
    obtain ⟨rfl, rfl, rfl⟩ := hcs
    simp only [if_true] at hz
    simp only [Prod.mk.injEq] at hx
    obtain ⟨_, rfl⟩ := hx
    have hlen : (ss.take len).length = len := by rw [List.length_take]; omega
    refine ⟨ss.take len, hlen.symm, fun hn => ?_, by rw [hlen]; unfold maxLen at hm; omega, fun s hs => by have := hsz s (List.mem_of_mem_take hs); unfold maxLen at this; exact this⟩
    have hpos : 0 < ss.length := by
      rcases Nat.eq_zero_or_pos ss.length with h0 | h0
      · exact absurd (List.eq_nil_of_length_eq_zero (by rw [List.length_take, h0]; omega)) hn
      · exact h0
    obtain ⟨b, off, spot⟩ := a'
    have hspot : spot = none := by simpa [Addr.add] using World.cell?_spot (hcell 0 hpos)
    subst hspot
    refine ⟨b, off, rfl, hlt (.cell b off) (MemPlace.mem_row.2 ⟨0, by omega, by simp⟩), fun j s hj => ?_⟩
    have hjl : j < ss.length := by
      have := (List.getElem?_eq_some_iff.1 hj).1
      rw [List.length_take] at this
      omega
    have h2 := hcell j hjl
    rw [add_plain] at h2
    rw [h2, List.getD]
    rw [List.getElem?_take] at hj
    split at hj
    · rw [hj]; rfl
    · cases hj

theorem own : ownKnob Try.prog.godebug = none := by kernel_rfl
theorem laidOut : laidOutB Try.prog = true := by kernel_rfl
end Frame
end Go.Proofs.Ytgpjgjjadhmkhaa

/-
  Arguments of a law: slices of integers and linear expressions, opened.
-/
namespace Go.Proofs.Ytgpjgjjadhmkhaa
open Go.ChangeShapes Go.WideShapes Go.ChangeAt Go.RowKit Go.Joins Go.Deep
namespace Frame
open RowK
variable {H : Type} {enc : TypeId × Value → H} {P : Program}

/-- A slice of integers: what it holds. -/
theorem trod_ints {W : World} {t e : TypeId} {n : Nat} {v : Value} {y : DataW H × List MemPlace} (hc : P.cellsOf e = 1) (ht : P.underlying t = some (.slice e)) (he : P.underlying e = some (.int .i64))
    (h : DataW.trod enc P W 0 (fun _ => true) true n t [v] = some y) (hlt : ∀ x ∈ y.2, x.block < W.heap.size) :
    ∃ (a : Option Addr) (cap : Nat) (zs : List Int), v = .slice a zs.length cap ∧ Row 0 W.heap.size W a (IntK.iv zs) ∧ zs.length ≤ 9223372036854775807 ∧ (∀ z ∈ zs, (Lit.int .i64 z).wf = true) ∧ zs.length ≤ cap := by
  rcases open_ints ht he hc h with ⟨hcs, hx⟩ | ⟨a', len', cap', zs, hcs, _, hl, hm, hz, hx, hcell, hsz⟩
  · injection hcs with hcs _
    subst hcs
    exact ⟨none, 0, [], rfl, row_nil _ _ _ _, by simp, (fun s hs => by cases hs), Nat.le_refl _⟩
  · injection hcs with hcs _
    subst hcs
    simp only [if_true] at hz
    have hx2 : y.2 = MemPlace.row a' zs.length := by rw [hx]
    have hlen : (zs.take len').length = len' := by rw [List.length_take]; omega
    refine ⟨some a', cap', zs.take len', by rw [hlen], fun hn => ?_, by rw [hlen]; unfold maxLen at hm; omega, fun s hs => hsz s (List.mem_of_mem_take hs), by rw [hlen]; exact hl⟩
    have hpos : 0 < zs.length := by
      rcases Nat.eq_zero_or_pos zs.length with h0 | h0
      · exact absurd (by rw [List.eq_nil_of_length_eq_zero h0]; simp [IntK.iv]) hn
      · exact h0
    obtain ⟨b, off, spot⟩ := a'
    have hspot : spot = none := by simpa [Addr.add] using World.cell?_spot (hcell 0 hpos)
    subst hspot
    refine ⟨b, off, rfl, ⟨Nat.zero_le _, hlt (.cell b off) (by rw [hx2]; exact MemPlace.mem_row.2 ⟨0, by omega, by simp⟩), Nat.le_refl _⟩, fun j s hj => ?_⟩
    have hjl : j < (zs.take len').length := by
      have := (List.getElem?_eq_some_iff.1 hj).1
      rwa [IntK.iv_len] at this
    have hjl' : j < zs.length := by rw [List.length_take] at hjl; omega
    have h2 := hcell j hjl'
    rw [add_plain] at h2
    rw [h2, List.getD]
    rw [List.getElem?_eq_getElem (by rw [IntK.iv_len]; exact hjl), IntK.iv_get hjl] at hj
    rw [← Option.some.inj hj, List.getElem_take, List.getElem?_eq_getElem hjl']
    rfl

theorem open_ints_row {W : World} {t e : TypeId} {v : Value} {d : DataW H} {ps : List MemPlace} {r : Reach} {b0 : Nat} (hc : P.cellsOf e = 1) (ht : P.underlying t = some (.slice e)) (he : P.underlying e = some (.int .i64)) (hv : Value.okWide P W r b0 t v)
    (h : DataW.Trod enc P W 0 (fun _ => true) true t v d ps) (hlt : ∀ x ∈ ps, x.block < W.heap.size) :
    ∃ (a : Option Addr) (cap : Nat) (zs : List Int), v = .slice a zs.length cap ∧ Row 0 W.heap.size W a (IntK.iv zs) ∧ zs.length ≤ 9223372036854775807 ∧ (∀ z ∈ zs, (Lit.int .i64 z).wf = true) ∧ zs.length ≤ cap := by
  obtain ⟨a, len, cap, rfl⟩ := okWide_slice ht hv
  obtain ⟨fuel, hf⟩ := h
  exact trod_ints hc ht he (by simpa [Value.cells] using hf) hlt

theorem open_lin {W : World} {t ti tl : TypeId} {v : Value} {d : DataW H} {ps : List MemPlace} {r : Reach} {b0 : Nat} {f0 f1 : Field} (hs : P.underlying t = some (.struct #[f0, f1])) (hone : oneCellFields P #[f0, f1] = true) (hC : P.cellsOf t = 2)
    (h0 : f0.type = ti) (h1 : f1.type = tl) (hti : P.underlying ti = some (.int .i64)) (htl : P.underlying tl = some (.slice ti)) (hc : P.cellsOf ti = 1) (hv : Value.okWide P W r b0 t v)
    (h : DataW.Trod enc P W 0 (fun _ => true) true t v d ps) (hlt : ∀ x ∈ ps, x.block < W.heap.size) :
    ∃ (z : Int) (a : Option Addr) (cap : Nat) (zs : List Int), v = .agg #[.int .i64 z, .slice a zs.length cap] ∧ (Lit.int .i64 z).wf = true ∧ Row 0 W.heap.size W a (IntK.iv zs) ∧ zs.length ≤ 9223372036854775807 ∧ (∀ z ∈ zs, (Lit.int .i64 z).wf = true) ∧ zs.length ≤ cap := by
  obtain ⟨v0, v1, y0, y1, n, rfl, _, rfl, g0, g1⟩ := open_agg2 hs hone hC hv h
  rw [h0] at g0
  rw [h1] at g1
  obtain ⟨z, e, _, hw⟩ := DataW.trod_int hti g0
  injection e with e _
  subst e
  obtain ⟨a, cap, zs, rfl, k1, k2, k3, k4⟩ := trod_ints hc htl hti g1 (fun x hx => hlt x (List.mem_append_right _ hx))
  exact ⟨z, a, cap, zs, rfl, hw, k1, k2, k3, k4⟩
end Frame
end Go.Proofs.Ytgpjgjjadhmkhaa

/-
  Arguments of a law: sums and arguments, opened.
-/
namespace Go.Proofs.Ytgpjgjjadhmkhaa
open Go.ChangeShapes Go.WideShapes Go.ChangeAt Go.RowKit Go.Joins Go.Deep
namespace Frame
open RowK Mem
variable {H : Type} {enc : TypeId × Value → H} {P : Program}

theorem pick_els {β : Type} (Q : Nat → β → Prop) : ∀ n, (∀ i, i < n → ∃ e, Q i e) → ∃ es : List β, es.length = n ∧ ∀ i (h : i < es.length), Q i es[i]
  | 0, _ => ⟨[], rfl, fun i h => absurd h (Nat.not_lt_zero _)⟩
  | n + 1, h => by
    obtain ⟨es, hl, he⟩ := pick_els Q n (fun i hi => h i (by omega))
    obtain ⟨e, hq⟩ := h n (Nat.lt_succ_self _)
    refine ⟨es ++ [e], by simp [hl], fun i hi => ?_⟩
    by_cases hin : i < es.length
    · rw [List.getElem_append_left hin]; exact he i hin
    · have : i = n := by simp at hi; omega
      subst this
      rw [List.getElem_append_right (by omega)]
      simpa [hl] using hq
/-- A slice of any data: what it holds. -/
theorem trod_slice {α : Type} {r : Rep α} {Wf : α → Prop} {W : World} {t e : TypeId} (hn : 0 < r.n) (hce : P.cellsOf e = r.n) (ht : P.underlying t = some (.slice e))
    (hel : ∀ {m : Nat} {cs : List Value} {y : DataW H × List MemPlace}, DataW.trod enc P W 0 (fun _ => true) true m e cs = some y → (∀ x ∈ y.2, x.block < W.heap.size) → ∃ fp p, r.rep false W fp cs p ∧ Wf p)
    {n : Nat} {v : Value} {y : DataW H × List MemPlace} (h : DataW.trod enc P W 0 (fun _ => true) true n t [v] = some y) (hlt : ∀ x ∈ y.2, x.block < W.heap.size) :
    ∃ A c fp xs, v = .slice A xs.length c ∧ (Rep.slice r).rep false W fp [.slice A xs.length c] xs ∧ xs.length ≤ 9223372036854775807 ∧ ∀ x ∈ xs, Wf x := by
  rcases open_slice ht h with ⟨hcs, _⟩ | ⟨a, len, cap, m, k, D, Pl, hcs, _, hl, hm, hmm, hx, hi⟩
  · injection hcs with hcs _
    subst hcs
    exact ⟨none, 0, [], [], rfl, ⟨_, _, rfl, Nat.le_refl _, Or.inl ⟨rfl, rfl⟩⟩, by simp, fun x hx => by cases hx⟩
  · injection hcs with hcs _
    subst hcs
    simp only [if_true] at hmm
    obtain rfl : cap = m := hmm.symm
    rw [hce] at hi hx
    have hx2 : y.2 = MemPlace.row a (cap * r.n) ++ (List.range cap).flatMap Pl := by rw [hx]
    by_cases h0 : len = 0
    · subst h0
      exact ⟨some a, cap, [], [], rfl, ⟨_, _, rfl, Nat.zero_le _, Or.inl ⟨rfl, rfl⟩⟩, by simp, fun x hx => by cases hx⟩
    · obtain ⟨es, hes, he⟩ := pick_els (fun i (e : El α) => (∀ j, j < r.n → W.cell? ((a.add (i * r.n)).add j) = e.2.1[j]?) ∧ r.rep false W e.1 e.2.1 e.2.2 ∧ Wf e.2.2) len (fun i hil => by
        obtain ⟨cs', hc, ht'⟩ := hi i (by omega)
        obtain ⟨_, _, hat⟩ := World.cells?_some hc
        obtain ⟨fp, p, h1, h2⟩ := hel ht' (fun x hx' => hlt x (by rw [hx2]; exact List.mem_append_right _ (List.mem_flatMap.2 ⟨i, List.mem_range.2 (by omega), hx'⟩)))
        exact ⟨(fp, cs', p), hat, h1, h2⟩)
      have hlen : ∀ e ∈ es, e.2.1.length = r.n := fun e h => by
        obtain ⟨i, hi', rfl⟩ := List.getElem_of_mem h
        exact r.len (he i hi').2.1
      obtain ⟨b, off, spot⟩ := a
      have hspot : spot = none := by
        have h1 := (he 0 (by omega)).1 0 hn
        have h2 := hlen es[0] (List.getElem_mem _)
        rw [List.getElem?_eq_getElem (by omega)] at h1
        have := World.cell?_spot h1
        cases spot with
        | none => rfl
        | some s => simp [Addr.add] at this
      subst hspot
      have hcap : 0 < cap * r.n := Nat.mul_pos (by omega) hn
      have hbl : b < W.heap.size := hlt (.cell b off) (by rw [hx2]; exact List.mem_append_left _ (MemPlace.mem_row.2 ⟨0, hcap, by simp⟩))
      have hvl : (vals es).length = len := by rw [vals_len, hes]
      have hne : es ≠ [] := fun e => by rw [e] at hes; simp at hes; omega
      refine ⟨some ⟨b, off, none⟩, cap, b :: fps es, vals es, by rw [hvl], ⟨_, cap, rfl, by omega, Or.inr ⟨b, off, es, rfl, rfl, hne, rfl, hbl, fun e h => ?_, fun _ => ⟨b, off, rfl, ⟨Nat.le_refl _, Nat.lt_succ_self _, hbl⟩, fun j v hj => ?_⟩, fun h => by cases h⟩⟩, by rw [hvl]; unfold maxLen at hm; omega, fun x hx' => ?_⟩
      · obtain ⟨i, hi', rfl⟩ := List.getElem_of_mem h
        exact (he i hi').2.1
      · have hjl : j < es.length * r.n := by
          have := (List.getElem?_eq_some_iff.1 hj).1
          rwa [cells_len hlen] at this
        have hk : j / r.n < es.length := (Nat.div_lt_iff_lt_mul hn).2 hjl
        have hi3 : j % r.n < r.n := Nat.mod_lt _ hn
        have hat := cells_at hlen hk hi3
        have hc := (he (j / r.n) hk).1 (j % r.n) hi3
        have hjj : j / r.n * r.n + j % r.n = j := by rw [Nat.mul_comm]; exact Nat.div_add_mod j r.n
        rw [hjj, hj] at hat
        rw [← hat, add_plain, add_plain] at hc
        rw [← hc]
        congr 2
        rw [Nat.add_assoc, hjj]
      · obtain ⟨e, h, rfl⟩ := List.mem_map.1 hx'
        obtain ⟨i, hi', rfl⟩ := List.getElem_of_mem h
        exact (he i hi').2.2

/-- What the kit calls a Term and a Sum: their fields. -/
structure IsSum (P : Program) (e tl te ti ts : TypeId) : Prop where
  fields : ∃ f0 f1 : Field, P.underlying e = some (.struct #[f0, f1]) ∧ f0.type = ti ∧ f1.type = tl ∧ f0.offset = 0 ∧ f1.offset = 1
  fieldsT : ∃ f0 f1 : Field, P.underlying te = some (.struct #[f0, f1]) ∧ f0.type = ti ∧ f1.type = ts ∧ f0.offset = 0 ∧ f1.offset = 1
  hti : P.underlying ti = some (.int .i64)
  hts : P.underlying ts = some .string
  htl : P.underlying tl = some (.slice te)
  hci : P.cellsOf ti = 1
  hcs : P.cellsOf ts = 1
  hcl : P.cellsOf tl = 1
  hct : P.cellsOf te = 2
  hce : P.cellsOf e = 2
theorem trod_term {W : World} {e tl te ti ts : TypeId} (T : IsSum P e tl te ti ts) {n : Nat} {cs : List Value} {y : DataW H × List MemPlace} (h : DataW.trod enc P W 0 (fun _ => true) true n te cs = some y) :
    ∃ fp p, term.rep false W fp cs p ∧ WfTerm p := by
  obtain ⟨f0, f1, hs, rfl, rfl, o0, o1⟩ := T.fieldsT
  obtain ⟨y0, y1, m, rfl, hl, g0, g1⟩ := trod_struct2 hs h
  rw [T.hct] at hl
  obtain ⟨a, b, rfl⟩ : ∃ a b, cs = [a, b] := by
    match cs, hl with
    | [a, b], _ => exact ⟨a, b, rfl⟩
  rw [o0, T.hci] at g0
  rw [o1, T.hcs] at g1
  obtain ⟨z, e, _, hw⟩ := DataW.trod_int T.hti g0
  obtain rfl : a = .int .i64 z := by simpa using e
  obtain ⟨s, e, _, hw2⟩ := DataW.trod_string T.hts g1
  obtain rfl : b = .string s := by simpa using e
  exact ⟨[], (z, s), term_close _ _ _ _, hw, by unfold maxLen at hw2; exact hw2⟩
theorem trod_terms {W : World} {e tl te ti ts : TypeId} (T : IsSum P e tl te ti ts) {n : Nat} {v : Value} {y : DataW H × List MemPlace} (h : DataW.trod enc P W 0 (fun _ => true) true n tl [v] = some y) (hlt : ∀ x ∈ y.2, x.block < W.heap.size) :
    ∃ A c fp xs, v = .slice A xs.length c ∧ terms.rep false W fp [.slice A xs.length c] xs ∧ xs.length ≤ 9223372036854775807 ∧ ∀ x ∈ xs, WfTerm x :=
  trod_slice (r := term) (Nat.succ_pos _) T.hct T.htl (fun h _ => trod_term T h) h hlt
theorem trod_sum {W : World} {e tl te ti ts : TypeId} (T : IsSum P e tl te ti ts) {n : Nat} {cs : List Value} {y : DataW H × List MemPlace} (h : DataW.trod enc P W 0 (fun _ => true) true n e cs = some y) (hlt : ∀ x ∈ y.2, x.block < W.heap.size) :
    ∃ fp p, Mem.sum.rep false W fp cs p ∧ WfSum p := by
  obtain ⟨f0, f1, hs, rfl, rfl, o0, o1⟩ := T.fields
  obtain ⟨y0, y1, m, rfl, hl, g0, g1⟩ := trod_struct2 hs h
  rw [T.hce] at hl
  obtain ⟨a, b, rfl⟩ : ∃ a b, cs = [a, b] := by
    match cs, hl with
    | [a, b], _ => exact ⟨a, b, rfl⟩
  rw [o0, T.hci] at g0
  rw [o1, T.hcl] at g1
  obtain ⟨z, e, _, hw⟩ := DataW.trod_int T.hti g0
  obtain rfl : a = .int .i64 z := by simpa using e
  obtain ⟨A, c, fp, xs, rfl, k1, k2, k3⟩ := trod_terms T g1 (fun x hx => hlt x (List.mem_append_right _ hx))
  exact ⟨fp, (z, xs), sum_close k1, hw, k2, k3⟩
theorem open_sum {W : World} {e tl te ti ts : TypeId} {v : Value} {d : DataW H} {ps : List MemPlace} {r : Reach} {b0 : Nat} {f0 f1 : Field} (T : IsSum P e tl te ti ts) (hs : P.underlying e = some (.struct #[f0, f1])) (hone : oneCellFields P #[f0, f1] = true)
    (h0 : f0.type = ti) (h1 : f1.type = tl) (hv : Value.okWide P W r b0 e v) (h : DataW.Trod enc P W 0 (fun _ => true) true e v d ps) (hlt : ∀ x ∈ ps, x.block < W.heap.size) :
    ∃ (z : Int) (A : Option Addr) (c : Nat) (xs : List (Int × ByteArray)), v = .agg #[.int .i64 z, .slice A xs.length c] ∧ (Lit.int .i64 z).wf = true ∧ ArgS term W A xs.length c xs ∧ xs.length ≤ 9223372036854775807 ∧ ∀ x ∈ xs, WfTerm x := by
  obtain ⟨v0, v1, y0, y1, n, rfl, _, rfl, g0, g1⟩ := open_agg2 hs hone T.hce hv h
  rw [h0] at g0
  rw [h1] at g1
  obtain ⟨z, e, _, hw⟩ := DataW.trod_int T.hti g0
  injection e with e _
  subst e
  obtain ⟨A, c, fp, xs, rfl, k1, k2, k3⟩ := trod_terms T g1 (fun x hx => hlt x (List.mem_append_right _ hx))
  exact ⟨z, A, c, xs, rfl, hw, ⟨_, _, k1⟩, k2, k3⟩
theorem open_arg {W : World} {t th e tl te ti ts tb : TypeId} {v : Value} {d : DataW H} {ps : List MemPlace} {r : Reach} {b0 : Nat} {f0 f1 f2 : Field} (T : IsSum P e tl te ti ts) (hs : P.underlying t = some (.struct #[f0, f1, f2])) (hone : oneCellFields P #[f0, f1, f2] = true) (hC : P.cellsOf t = 3)
    (h0 : f0.type = tb) (h1 : f1.type = th) (h2 : f2.type = ts) (hb : P.underlying tb = some .bool) (hh : P.underlying th = some (.slice e)) (hv : Value.okWide P W r b0 t v) (h : DataW.Trod enc P W 0 (fun _ => true) true t v d ps) (hlt : ∀ x ∈ ps, x.block < W.heap.size) :
    ∃ (p : Bool) (A : Option Addr) (c : Nat) (xs : List SumT) (s : ByteArray), v = .agg #[.bool p, .slice A xs.length c, .string s] ∧ ArgS Mem.sum W A xs.length c xs ∧ xs.length ≤ 9223372036854775807 ∧ (∀ x ∈ xs, WfSum x) ∧ s.size ≤ 9223372036854775807 := by
  obtain ⟨v0, v1, v2, y0, y1, y2, n, rfl, _, rfl, g0, g1, g2⟩ := open_agg3 hs hone hC hv h
  rw [h0] at g0
  rw [h1] at g1
  rw [h2] at g2
  obtain ⟨p, e0, _⟩ := DataW.trod_bool hb g0
  injection e0 with e0 _
  subst e0
  obtain ⟨s, e2, _, hw⟩ := DataW.trod_string T.hts g2
  injection e2 with e2 _
  subst e2
  obtain ⟨A, c, fp, xs, rfl, k1, k2, k3⟩ := trod_slice (r := Mem.sum) (Wf := WfSum) (Nat.succ_pos _) T.hce hh (fun h hl => trod_sum T h hl) g1 (fun x hx => hlt x (by simp [hx]))
  exact ⟨p, A, c, xs, s, rfl, ⟨_, _, k1⟩, k2, k3, by unfold maxLen at hw; exact hw⟩
end Frame
end Go.Proofs.Ytgpjgjjadhmkhaa
