import Derived.Test.YtbbllkhmenpnlaaGreatChecked
import Derived.WalkKit
import Derived.WalkSpells
import Derived.WalkLawsBesides
import Derived.ProofKit
import Derived.OpenShut
import Derived.ShutString
import Derived.SizedLaws
import Derived.JoinedCond
import Derived.Deep.DeepHandedRow
import Derived.LaidLaws
import Derived.SliceStrings
import Derived.Test.YtbbllkhmenpnlaaGreatStrRow
/-
  The frame that every law of this program shares: behind the call nothing that was there has turned ('Below'), so arguments and named variables read as they did.
-/
namespace Go.Proofs.YtbbllkhmenpnlaaGreat
open Go.ChangeShapes Go.WideShapes Go.ChangeAt Go.RowKit
namespace Frame
variable {H : Type} {enc : TypeId × Value → H} {P : Program}

theorem trodAll_stays (hl : laidOutB P = true) {W W' : World} (hb : Below W.heap.size W W') : ∀ {ts : List TypeId} {vs : List Value} {ds : List (DataW H)} {ps : List MemPlace},
  ts.all (fun t => P.readableRec t && decide (t < P.types.size)) = true → DataW.TrodAll enc P W 0 (fun _ => true) true ts vs ds ps → (∀ x ∈ ps, x.block < W.heap.size) →
  DataW.TrodAll enc P W' 0 (fun b => decide (b < W.heap.size)) true ts vs ds ps
 | [], [], [], ps, _, h, _ => h
 | t :: ts, v :: vs, d :: ds, ps, ha, h, hlt => by
  obtain ⟨p, q, h1, h2, rfl⟩ := h
  simp only [List.all_cons, Bool.and_eq_true, decide_eq_true_eq] at ha
  exact ⟨p, q, Below.trod hl ha.1.1 ha.1.2 h1 hb (fun x hx => hlt x (List.mem_append_left _ hx)), trodAll_stays hl hb ha.2 h2 (fun x hx => hlt x (List.mem_append_right _ hx)), rfl⟩
 | [], _ :: _, _, _, _, h, _ => h.elim
 | [], [], _ :: _, _, _, h, _ => h.elim
 | _ :: _, [], _, _, _, h, _ => h.elim
 | _ :: _, _ :: _, [], _, _, h, _ => h.elim

theorem trod_iface_any {t : TypeId} {ms : Array (String × TypeId)} (ht : P.underlying t = some (.interface ms)) {w w' : World} {sp sp' : Nat → Bool} {fuel : Nat} {cs : List Value} {x : DataW H × List MemPlace}
  (h : DataW.trod enc P w 0 sp true fuel t cs = some x) : DataW.trod enc P w' 0 sp' true fuel t cs = some x := by
 cases fuel with
 | zero => simp [DataW.trod] at h
 | succ n =>
  match cs, h with
  | [], h => simp [DataW.trod, ht] at h
  | [c], h => cases c <;> simp [DataW.trod, ht] at h ⊢ <;> exact h
  | _ :: _ :: _, h => simp [DataW.trod, ht] at h

def ifaceVar (P : Program) (n : String) : Bool :=
 match (P.globalNamed n).bind fun g => (P.globals[g]?).map (·.type) with
 | some t => match P.underlying t with | some (.interface _) => true | _ => false
 | none => false

theorem trodVars_stays {W W' : World} (hb : Below W.heap.size W W') {sp : Nat → Bool} : ∀ {ns : List String} {gs : List (DataW H)} {ps : List MemPlace},
  ns.all (ifaceVar P) = true → DataW.TrodVars enc P W (fun _ => true) ns gs ps → DataW.TrodVars enc P W' sp ns gs ps
 | [], [], _, _, h => h
 | n :: ns, d :: gs, ps, ha, h => by
  obtain ⟨g, t, cs, fuel, p, q, hg, ht, hv, hd, hr, rfl⟩ := h
  simp only [List.all_cons, Bool.and_eq_true] at ha
  obtain ⟨ha1, ha2⟩ := ha
  simp only [ifaceVar, hg, Option.bind_some, ht] at ha1
  split at ha1
  ·rename_i ms hu
   have hgl : g < W.heap.size := by
    rcases Nat.lt_or_ge g W.heap.size with h' | h'
    ·exact h'
    ·simp [World.var?, hg, Array.getElem?_eq_none h'] at hv
   exact ⟨g, t, cs, fuel, p, q, hg, ht, var?_below hb hg hgl hv, trod_iface_any hu hd, trodVars_stays hb ha2 hr, rfl⟩
  ·cases ha1
 | [], _ :: _, _, _, h => h.elim
 | _ :: _, [], _, _, h => h.elim

theorem law_post {f : Func} {s : ChangeSpec} {apart fresh handsOn : Bool} {W W' : World} {args : Array Value} {ds gs : List (DataW H)} {before : List MemPlace} {tb : TypeId}
  (hl : laidOutB P = true) (hpar : f.params.toList.all (fun t => P.readableRec t && decide (t < P.types.size)) = true) (hvar : s.vars.all (ifaceVar P) = true)
  (hres : f.resultTypes = #[tb]) (htb : P.underlying tb = some .bool)
  (hW : DataW.Whole enc P f.params.toList s.vars apart W args.toList ds gs before)
  (hfn : s.fn H (ds ++ gs) = { results := [.lit (.bool true)], args := ds, vars := gs })
  (hb : Below W.heap.size W W') : s.post enc P f apart fresh handsOn false W args (.bool true) W' := by
 have hW' := hW
 obtain ⟨p, q, hA, hV, rfl, _, _⟩ := hW
 have hlt : ∀ x ∈ p ++ q, x.block < W.heap.size := fun x hx => hW'.lt x hx
 refine ⟨ds, gs, p ++ q, [], p, q, hW', ?_, ?_, ?_, hb.frame _, fun h => by cases h⟩
 ·rw [hfn, hres]
  exact trodAll_mk1 (shut_bool htb true)
 ·rw [hfn]
  exact trodAll_stays hl hb hpar hA (fun x hx => hlt x (List.mem_append_left _ hx))
 ·rw [hfn]
  exact trodVars_stays hb hvar hV

theorem own : ownKnob Tryz.prog.godebug = none := by kernel_rfl
theorem laidOut : laidOutB Tryz.prog = true := by kernel_rfl
end Frame
end Go.Proofs.YtbbllkhmenpnlaaGreat
