import Derived.Test.YtgpjgjjadhmkhaaRepGen
import Derived.Test.YtgpjgjjadhmkhaaStrMark
import Derived.Deep.RegionLaw
/-
  Terms as data in memory, and slices of them: the laws' helpers.
-/
namespace Go.Proofs.Ytgpjgjjadhmkhaa
open Go.RowKit
namespace Mem
open RowK

def term : Rep (Int × ByteArray) := Rep.prod Rep.int Rep.str
def terms : Rep (List (Int × ByteArray)) := Rep.slice term
theorem term_open {q : Bool} {w : World} {fp : List Nat} {cs : List Value} {p : Int × ByteArray} (h : term.rep q w fp cs p) : fp = [] ∧ cs = [.int .i64 p.1, .string p.2] := by
  obtain ⟨f1, f2, c1, c2, rfl, rfl, ⟨rfl, rfl⟩, ⟨rfl, rfl⟩⟩ := h
  exact ⟨rfl, rfl⟩
theorem term_close (q : Bool) (w : World) (z : Int) (s : ByteArray) : term.rep q w [] [.int .i64 z, .string s] (z, s) := ⟨[], [], _, _, rfl, rfl, ⟨rfl, rfl⟩, ⟨rfl, rfl⟩⟩
theorem terms_at {q : Bool} {w : World} {fp : List Nat} {A : Option Addr} {n c : Nat} {xs : List (Int × ByteArray)} (h : terms.rep q w fp [.slice A n c] xs) {k : Nat} (hk : k < xs.length) :
    ∃ b o, A = some ⟨b, o, none⟩ ∧ b < w.heap.size ∧ w.cell? ⟨b, o + k * 2, none⟩ = some (.int .i64 xs[k].1) ∧ w.cell? ⟨b, o + k * 2 + 1, none⟩ = some (.string xs[k].2) := by
  obtain ⟨b, o, f, cs, rfl, hb, hr, hc, _⟩ := slice_at h hk
  obtain ⟨_, rfl⟩ := term_open hr
  exact ⟨b, o, rfl, hb, hc 0 (Nat.succ_pos _), hc 1 (Nat.lt_succ_self _)⟩
theorem ArgS.term_at {w : World} {A : Option Addr} {n c : Nat} {xs : List (Int × ByteArray)} (h : ArgS term w A n c xs) {k : Nat} (hk : k < xs.length) :
    ∃ b o, A = some ⟨b, o, none⟩ ∧ b < w.heap.size ∧ w.cell? ⟨b, o + k * 2, none⟩ = some (.int .i64 xs[k].1) ∧ w.cell? ⟨b, o + k * 2 + 1, none⟩ = some (.string xs[k].2) := by
  obtain ⟨q, fp, h⟩ := h
  exact terms_at h hk
def tsz (x : Int × ByteArray) : Nat := x.2.size
def WfTerm (x : Int × ByteArray) : Prop := (Lit.int .i64 x.1).wf = true ∧ x.2.size ≤ 9223372036854775807
def termsSize (xs : List (Int × ByteArray)) : Nat := xs.length + szs tsz xs
def mkTerm (k : Nat) (_ : Int × ByteArray) : Int × ByteArray := ((k : Int), StrK.mt (k + 1))
def nTerm (_ : Int × ByteArray) : Nat := 2
abbrev marksT (k : Nat) (xs : List (Int × ByteArray)) : List (Int × ByteArray) := mks mkTerm nTerm k xs
theorem nTerms : ∀ xs : List (Int × ByteArray), szs nTerm xs = 2 * xs.length
  | [] => rfl
  | x :: xs => by rw [szs_cons, nTerms xs, List.length_cons]; unfold nTerm; omega
def zeroTerm : El (Int × ByteArray) := ([], [.int .i64 0, .string ByteArray.empty], (0, ByteArray.empty))

/-- What toTermS hands back. -/
def CopiedTermS (w : World) (xs : List (Int × ByteArray)) (e : Ending) (w' : World) : Prop := ∃ A, e = .returned (.slice A xs.length xs.length) ∧ New terms w xs w' [.slice A xs.length xs.length] ∧ Below w.heap.size w w'
def SzTerm (w : World) (xs : List (Int × ByteArray)) (m : Nat) (x i : Value) (wr : World) : Prop :=
  ∃ k l : Nat, k ≤ xs.length ∧ i = .int .i64 k ∧ x = .int .i64 l ∧ l + szs tsz (xs.take k) + xs.length = m ∧ Below w.heap.size w wr
def HeldT (w : World) (xs : List (Int × ByteArray)) (k0 : Nat) (x i : Value) (wr : World) : Prop :=
  ∃ k : Nat, k ≤ xs.length ∧ i = .int .i64 k ∧ x = .int .i64 ((k0 + 2 * k : Nat) : Int) ∧ Below w.heap.size w wr
/-- What markTermS leaves. -/
def MarkedTerm (fp : List Nat) (w : World) (A : Option Addr) (c k0 : Nat) (xs : List (Int × ByteArray)) (e : Ending) (w' : World) : Prop :=
  e = .returned (.int .i64 ((k0 : Int) + szs nTerm xs)) ∧ terms.rep true w' fp [.slice A xs.length c] (mks mkTerm nTerm k0 xs) ∧ ModF fp w w'
end Mem
end Go.Proofs.Ytgpjgjjadhmkhaa

/-
  Sums as data in memory, and slices of them: the laws' helpers.
-/
namespace Go.Proofs.Ytgpjgjjadhmkhaa
open Go.RowKit
namespace Mem
open RowK

abbrev SumT := Int × List (Int × ByteArray)
def sum : Rep SumT := Rep.prod Rep.int terms
def sums : Rep (List SumT) := Rep.slice sum
theorem sum_open {q : Bool} {w : World} {fp : List Nat} {cs : List Value} {p : SumT} (h : sum.rep q w fp cs p) :
    ∃ A c, cs = [.int .i64 p.1, .slice A p.2.length c] ∧ p.2.length ≤ c ∧ terms.rep q w fp [.slice A p.2.length c] p.2 := by
  obtain ⟨f1, f2, c1, c2, rfl, rfl, ⟨rfl, rfl⟩, h2⟩ := h
  obtain ⟨A, c, rfl, hc, h3⟩ := h2
  exact ⟨A, c, rfl, hc, A, c, rfl, hc, h3⟩
theorem sum_close {q : Bool} {w : World} {fp : List Nat} {A : Option Addr} {n c : Nat} {z : Int} {ts : List (Int × ByteArray)} (h : terms.rep q w fp [.slice A n c] ts) : sum.rep q w fp [.int .i64 z, .slice A n c] (z, ts) :=
  ⟨[], fp, _, _, rfl, rfl, ⟨rfl, rfl⟩, h⟩
theorem sums_at {q : Bool} {w : World} {fp : List Nat} {A : Option Addr} {n c : Nat} {xs : List SumT} (h : sums.rep q w fp [.slice A n c] xs) {k : Nat} (hk : k < xs.length) :
    ∃ b o B d f, A = some ⟨b, o, none⟩ ∧ b < w.heap.size ∧ w.cell? ⟨b, o + k * 2, none⟩ = some (.int .i64 xs[k].1) ∧ w.cell? ⟨b, o + k * 2 + 1, none⟩ = some (.slice B xs[k].2.length d) ∧ terms.rep q w f [.slice B xs[k].2.length d] xs[k].2 := by
  obtain ⟨b, o, f, cs, rfl, hb, hr, hc, _⟩ := slice_at h hk
  obtain ⟨B, d, rfl, _, h2⟩ := sum_open hr
  exact ⟨b, o, B, d, f, rfl, hb, hc 0 (Nat.succ_pos _), hc 1 (Nat.lt_succ_self _), h2⟩
theorem ArgS.sum_at {w : World} {A : Option Addr} {n c : Nat} {xs : List SumT} (h : ArgS sum w A n c xs) {k : Nat} (hk : k < xs.length) :
    ∃ b o B d, A = some ⟨b, o, none⟩ ∧ b < w.heap.size ∧ w.cell? ⟨b, o + k * 2, none⟩ = some (.int .i64 xs[k].1) ∧ w.cell? ⟨b, o + k * 2 + 1, none⟩ = some (.slice B xs[k].2.length d) ∧ ArgS term w B xs[k].2.length d xs[k].2 := by
  obtain ⟨q, fp, h⟩ := h
  obtain ⟨b, o, B, d, f, h1, h2, h3, h4, h5⟩ := sums_at h hk
  exact ⟨b, o, B, d, h1, h2, h3, h4, q, f, h5⟩
def ssz (x : SumT) : Nat := termsSize x.2
def ssl (x : SumT) : Nat := x.2.length
def WfSum (x : SumT) : Prop := (Lit.int .i64 x.1).wf = true ∧ x.2.length ≤ 9223372036854775807 ∧ ∀ t ∈ x.2, WfTerm t
def sumsSize (xs : List SumT) : Nat := xs.length + szs ssz xs
theorem ssl_le (xs : List SumT) : szs ssl xs ≤ szs ssz xs := szs_le (fun x => by unfold ssl ssz termsSize; omega) xs
def mkSum (k : Nat) (x : SumT) : SumT := ((k : Int), marksT (k + 1) x.2)
def nSum (x : SumT) : Nat := 1 + szs nTerm x.2
theorem nSums : ∀ xs : List SumT, szs nSum xs = xs.length + 2 * szs ssl xs
  | [] => rfl
  | x :: xs => by
    rw [szs_cons, szs_cons, nSums xs, List.length_cons]
    unfold nSum ssl
    rw [nTerms]
    omega
abbrev marksS (k : Nat) (xs : List SumT) : List SumT := mks mkSum nSum k xs
def zeroSum : El SumT := ([], [.int .i64 0, .slice none 0 0], (0, []))
/-- What toSumS hands back. -/
def CopiedSumS (w : World) (xs : List (SumT)) (e : Ending) (w' : World) : Prop := ∃ A, e = .returned (.slice A xs.length xs.length) ∧ New sums w xs w' [.slice A xs.length xs.length] ∧ Below w.heap.size w w'
def SzSum (w : World) (xs : List (SumT)) (m : Nat) (x i : Value) (wr : World) : Prop :=
  ∃ k l : Nat, k ≤ xs.length ∧ i = .int .i64 k ∧ x = .int .i64 l ∧ l + szs ssz (xs.take k) + xs.length = m ∧ Below w.heap.size w wr
def HeldS (w : World) (xs : List SumT) (k0 : Nat) (x i : Value) (wr : World) : Prop :=
  ∃ k l : Nat, k ≤ xs.length ∧ i = .int .i64 k ∧ x = .int .i64 l ∧ l = k0 + szs nSum (xs.take k) ∧ Below w.heap.size w wr
/-- What markSumS leaves. -/
def MarkedSum (fp : List Nat) (w : World) (A : Option Addr) (c k0 : Nat) (xs : List (SumT)) (e : Ending) (w' : World) : Prop :=
  e = .returned (.int .i64 ((k0 : Int) + szs nSum xs)) ∧ sums.rep true w' fp [.slice A xs.length c] (mks mkSum nSum k0 xs) ∧ ModF fp w w'
end Mem
end Go.Proofs.Ytgpjgjjadhmkhaa

/-
  Arguments as data in memory: the laws' helpers.
-/
namespace Go.Proofs.Ytgpjgjjadhmkhaa
open Go.RowKit
namespace Mem
open RowK

def argsSize (xs : List SumT) (s : ByteArray) : Nat := sumsSize xs + s.size
end Mem
end Go.Proofs.Ytgpjgjjadhmkhaa

/-
  Sums and arguments beside the worlds of an exact law: owned ones with the stretch of blocks in which they lie, and arguments.
-/
namespace Go.Proofs.Ytgpjgjjadhmkhaa
open Go.RowKit
namespace SumK
open RowK Mem
theorem len_le (xs : List (Int × ByteArray)) : xs.length ≤ termsSize xs := by unfold termsSize; omega
theorem sizes {xs : List (Int × ByteArray)} (h : termsSize xs ≤ 1000000000) : ∀ t ∈ xs, t.2.size ≤ 9223372036854775807 := fun t ht => by
  have := szs_mem (sz := tsz) ht
  unfold tsz at this
  unfold termsSize tsz at h
  omega
end SumK
namespace ArgK
open RowK Mem
theorem len_le (xs : List SumT) (s : ByteArray) : xs.length + szs ssl xs ≤ argsSize xs s := by
  have := ssl_le xs
  unfold argsSize sumsSize
  omega
theorem sizes {xs : List SumT} {s : ByteArray} (h : argsSize xs s ≤ 1000000000) : ∀ x ∈ xs, ∀ t ∈ x.2, t.2.size ≤ 9223372036854775807 := fun x hx => by
  have h1 := szs_mem (sz := ssz) hx
  unfold argsSize sumsSize at h
  exact SumK.sizes (by unfold ssz at h1 h; omega)
theorem bsize {xs : List SumT} {s : ByteArray} (h : argsSize xs s ≤ 1000000000) : s.size ≤ 9223372036854775807 := by
  unfold argsSize at h
  omega
end ArgK
end Go.Proofs.Ytgpjgjjadhmkhaa
