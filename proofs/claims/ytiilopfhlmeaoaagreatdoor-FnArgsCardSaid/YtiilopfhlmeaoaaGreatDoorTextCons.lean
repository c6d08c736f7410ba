import Derived.Test.YtiilopfhlmeaoaaGreatDoorTextFmtS
/-
  FormatConstraint, the program's and the model's.
-/
namespace Go.Proofs.YtiilopfhlmeaoaaGreatDoor
open Go.RowKit
namespace TextI
open TextM RowK

theorem terms_len : ∀ (ps : List TItem) (t : List UInt8), (∀ p ∈ ps, p.1.natAbs ≤ 1000000000 ∧ p.2.size ≤ 8) → (ps.foldl addU t).length ≤ t.length + 21 * ps.length
  | [], t, _ => by simp
  | p :: ps, t, h => by
    have h1 := addU_len t p (h p List.mem_cons_self).1 (h p List.mem_cons_self).2
    have h2 := terms_len ps (addU t p) (fun q hq => h q (List.mem_cons_of_mem _ hq))
    simp only [List.foldl_cons, List.length_cons]
    omega
/-- A representation is short. -/
theorem F_len (ss : List ByteArray) (z : Int) (zs : List Int) : (F (okB ss) ss z zs).length ≤ 190 := by
  unfold F
  split
  · rename_i h
    have hs8 := okB_small h.1
    have HV := LinM.vldB_iff.1 h.2
    have hm : ∀ p ∈ mk ss z zs, p.1.natAbs ≤ 1000000000 ∧ p.2.size ≤ 8 := fun p hp => by
      unfold mk at hp
      rcases List.mem_append.1 hp with hp | hp
      · have := zip_mem hp
        exact ⟨inC_abs (HV.2.2.2 _ this.1), hs8 _ this.2⟩
      · rw [List.mem_singleton.1 hp]
        exact ⟨inC_abs HV.2.2.1, by show ByteArray.empty.size ≤ 8; decide⟩
    have h1 := terms_len (mk ss z zs) [] hm
    have h2 : (mk ss z zs).length ≤ 9 := by
      unfold mk
      rw [List.length_append, List.length_zip]
      simp; omega
    unfold fmt
    split
    · decide
    · show (List.foldl addU [] (mk ss z zs)).length ≤ 190
      simp only [List.length_nil] at h1
      omega
  · simp
/-- What is written of a constraint. -/
def C (t : List UInt8) : List UInt8 := if t = [] then [] else t ++ [32, 62, 61, 32, 48]

end TextI
end Go.Proofs.YtiilopfhlmeaoaaGreatDoor
