import Derived.Test.YtbbllkhmenpnlaaGreatPgmScope3
import Derived.Test.YtbbllkhmenpnlaaGreatArgNames
import Derived.Test.YtbbllkhmenpnlaaGreatSortSpec1
/-
  Programs as mathematics: when a rule and a program are valid.
-/
namespace Go.Proofs.YtbbllkhmenpnlaaGreat
open Go.RowKit
namespace ProgM
open Mem ArgM ProgI
abbrev Bs := List ByteArray

theorem dist_inj {ss : List ByteArray} (h : NameS.dist ss = true) : ∀ (i j : Nat) s, ss[i]? = some s → ss[j]? = some s → i = j := by
 have key : ∀ (i j : Nat) s, ss[i]? = some s → ss[j]? = some s → ¬ i < j := fun i j s hi hj hlt => by
  have h1 : (ss.map fun s => s.data.toList)[j]? = some s.data.toList := by rw [List.getElem?_map, hj]; rfl
  have h2 : s.data.toList ∈ (ss.map fun s => s.data.toList).take j := by
   refine List.mem_of_getElem? (i := i) ?_
   rw [List.getElem?_take, if_pos hlt, List.getElem?_map, hi]; rfl
  have h3 := SortM.dist_no h1 h2
  rw [← SortM.srtB_data, List.length_map, List.length_map] at h3
  unfold NameS.dist at h
  rw [decide_eq_true_eq] at h
  omega
 intro i j s hi hj
 have a := key i j s hi hj
 have b := key j i s hj hi
 omega
theorem srt_nodup {l : List SortM.Bytes} (h : l.Nodup) : ∀ k, k ≤ l.length → (SortM.srt (l.take k)).length = k
 | 0, _ => rfl
 | k + 1, hk => by
  have hlt : k < l.length := hk
  refine SortM.dist_step (List.getElem?_eq_getElem hlt) (srt_nodup h k (by omega)) (fun hm => ?_)
  obtain ⟨i, hi, e⟩ := List.getElem_of_mem hm
  rw [List.getElem_take] at e
  rw [List.length_take] at hi
  have := (List.getElem_inj h).1 e
  omega
theorem dist_nodup (ss : Bs) : NameS.dist ss = true ↔ ss.Nodup := by
 constructor
 ·intro h
  rw [List.Nodup, List.pairwise_iff_getElem]
  intro i j hi hj hij e
  have := dist_inj h i j ss[i] (List.getElem?_eq_getElem hi) (by rw [List.getElem?_eq_getElem hj, e])
  omega
 ·intro h
  refine NameS.dist_true (srt_nodup ?_ _ (by simp))
  rw [List.Nodup, List.pairwise_map]
  exact List.Pairwise.imp (fun hne e => hne (NameM.toList_inj e)) h
theorem wo_nil {ss rs : Bs} : (NameM.wo ss rs).length = 0 ↔ ∀ s ∈ ss, s ∈ rs := by
 unfold NameM.wo
 rw [List.length_eq_zero_iff, List.filter_eq_nil_iff]
 constructor
 ·intro h s hs
  have := h s hs
  simp only [Bool.not_eq_true, Bool.not_eq_false'] at this
  exact NameM.hasB_iff.1 (by simpa using this)
 ·intro h s hs
  have := NameM.hasB_iff.2 (h s hs)
  simp [this]

def patV (x : PatternT) : Bool := (if x.2.1 then intName x.2.2.1 && NameM.listName x.2.2.2 else decide (x.2.2.1.size = 0) && decide (x.2.2.2.size = 0)) && NameM.listName x.1
def patsV (params : Bs) (ps : List PatternT) : Bool := ps.all patV && (NameS.dist (ps.map (·.1)) && decide ((NameM.wo (ps.map (·.1)) params).length = 0))
def patsS (params : Bs) : Bs → List PatternT → Bool
 | _, [] => true
 | met, x :: xs => !decide (Lib.idxOfS params x.1 < 0) && (NameM.listName x.1 && (!decide (0 ≤ Lib.idxOfS met x.1) && ((if x.2.1 then intName x.2.2.1 && NameM.listName x.2.2.2 else decide (x.2.2.1.size = 0) && decide (x.2.2.2.size = 0)) && patsS params (met ++ [x.1]) xs)))
theorem idx_mem {ss : Bs} {s : ByteArray} : 0 ≤ Lib.idxOfS ss s ↔ s ∈ ss := Lib.idxOfS_nonneg_iff ss s
theorem patsS_iff (params : Bs) : ∀ (ps : List PatternT) (met : Bs), patsS params met ps = true ↔ (∀ x ∈ ps, patV x = true ∧ x.1 ∈ params ∧ x.1 ∉ met) ∧ (ps.map (·.1)).Nodup
 | [], met => by simp [patsS]
 | x :: xs, met => by
  have ih := patsS_iff params xs (met ++ [x.1])
  simp only [patsS, Bool.and_eq_true, ih, Bool.not_eq_true', decide_eq_false_iff_not, idx_mem, Int.not_lt, List.mem_cons, List.map_cons, List.nodup_cons, List.mem_append, List.not_mem_nil, or_false]
  constructor
  ·rintro ⟨h1, h2, h3, h4, h5, h6⟩
   refine ⟨?_, ?_, h6⟩
   ·rintro y (rfl | hy)
    ·exact ⟨by unfold patV; rw [Bool.and_eq_true]; exact ⟨h4, h2⟩, h1, h3⟩
    ·exact ⟨(h5 y hy).1, (h5 y hy).2.1, fun h => (h5 y hy).2.2 (Or.inl h)⟩
   ·intro hm
    obtain ⟨y, hy, e⟩ := List.mem_map.1 hm
    exact (h5 y hy).2.2 (Or.inr e)
  ·rintro ⟨h1, h2, h3⟩
   have hx := h1 x (Or.inl rfl)
   have hp := hx.1
   unfold patV at hp
   rw [Bool.and_eq_true] at hp
   refine ⟨hx.2.1, hp.2, hx.2.2, hp.1, fun y hy => ⟨(h1 y (Or.inr hy)).1, (h1 y (Or.inr hy)).2.1, fun h => ?_⟩, h3⟩
   rcases h with h | h
   ·exact (h1 y (Or.inr hy)).2.2 h
   ·exact h2 (List.mem_map.2 ⟨y, hy, h⟩)
theorem patsS_eq (params : Bs) (ps : List PatternT) : patsS params [] ps = patsV params ps := by
 rw [Bool.eq_iff_iff, patsS_iff]
 unfold patsV
 simp only [Bool.and_eq_true, List.all_eq_true, dist_nodup, decide_eq_true_eq, wo_nil, List.mem_map, forall_exists_index, and_imp, forall_apply_eq_imp_iff₂]
 constructor
 ·rintro ⟨h1, h2⟩
  exact ⟨fun x hx => (h1 x hx).1, h2, fun x hx => (h1 x hx).2.1⟩
 ·rintro ⟨h1, h2, h3⟩
  exact ⟨fun x hx => ⟨h1 x hx, h3 x hx, by simp⟩, h2⟩

def argIn (a : ArgT) (list : Bool) (sc : Bs) : Bool := argV a && ((a.1 == list) && decide ((NameM.wo (SortM.srtB (ArgI.nmA a.2.1 a.2.2)) sc).length = 0))
def argsV (sc : Bs) : List ArgT → Bs → Bool
 | a :: l, p :: ps => argIn a (NameM.listName p) sc && argsV sc l ps
 | _, _ => true
def callF (f : FunctionT) (c : CallT) (sc : Bs) : Bool := NameM.validName c.1 && ((NameM.listName c.1 == f.2.2.1) && (decide (c.2.2.length = f.2.1.length) && argsV sc c.2.2 f.2.1))
def callV (fs : List FunctionT) (c : CallT) (sc : Bs) : Bool := (findF fs c.2.1).isSome && callF ((findF fs c.2.1).getD zeroF) c sc
def restV (fs : List FunctionT) (list : Bool) (res : ArgT) : Bs → List CallT → Bool
 | sc, [] => argIn res list sc && NameS.dist sc
 | sc, c :: cs => callV fs c sc && restV fs list res (sc ++ [c.1]) cs
def guardsV (gs : List SumT) (sc : Bs) : Bool := gs.all fun g => argIn (false, [g], ByteArray.empty) false sc
def ruleF (fs : List FunctionT) (f : FunctionT) (r : RuleT) : Bool :=
 patsV f.2.1 r.2.1 && (decide (r.2.2.1.length ≤ 2) && (decide (r.2.2.2.1.length ≤ 2) && (guardsV r.2.2.1 (f.2.1 ++ nmP r.2.1) && restV fs f.2.2.1 r.2.2.2.2 (f.2.1 ++ nmP r.2.1) r.2.2.2.1)))
def ruleV (fs : List FunctionT) (r : RuleT) : Bool := (findF fs r.1).isSome && ruleF fs ((findF fs r.1).getD zeroF) r
def paramsV (ps : Bs) : Bool := decide (ps.length ≤ 2) && (NameS.dist ps && ps.all NameM.validName)
def fnV (f : FunctionT) : Bool := intName f.1 && (paramsV f.2.1 && (decide (f.2.2.2.length ≤ 2) && f.2.2.2.all fun l => LinM.vldB l.1 l.2 f.2.1.length))
def progV (fs : List FunctionT) (rs : List RuleT) : Bool :=
 (decide (fs.length ≠ 0) && (decide (fs.length ≤ 3) && decide (rs.length ≤ 8))) && (NameS.dist (fs.map (·.1)) && (fs.all fnV && rs.all (ruleV fs)))
end ProgM
end Go.Proofs.YtbbllkhmenpnlaaGreat
