import Derived.Test.YtmkelfjnjnjgbaaElimStart
import Derived.Test.YtmkelfjnjnjgbaaDraw6b
import Derived.Test.YtmkelfjnjnjgbaaFarkSpec2
import Derived.Test.YtmkelfjnjnjgbaaSysOwn
import Derived.Test.YtmkelfjnjnjgbaaRepOwn
/-
  The model's search for a certificate.
-/
namespace Go.Proofs.Ytmkelfjnjnjgbaa
open Go.RowKit
namespace ElimS
open RowK Mem ElimM ArithM LinM LinI FarkM

theorem lins_rep_at {q : Bool} {w : World} {fp : List Nat} {A : Option Addr} {n c : Nat} {xs : List (Int × List Int)} (h : lins.rep q w fp [.slice A n c] xs) {k : Nat} (hk : k < xs.length) :
    ∃ b o f B d lo hi, A = some ⟨b, o, none⟩ ∧ b < w.heap.size ∧ w.cell? ⟨b, o + k * 2, none⟩ = some (.int .i64 xs[k].1) ∧ w.cell? ⟨b, o + k * 2 + 1, none⟩ = some (.slice B xs[k].2.length d) ∧ xs[k].2.length ≤ d ∧ Row lo hi w B (IntK.iv xs[k].2) ∧ lin.rep false w f [.int .i64 xs[k].1, .slice B xs[k].2.length d] xs[k] := by
  obtain ⟨b, o, f, cs, rfl, hb, hr, hc, hf⟩ := slice_at h hk
  obtain ⟨B, d, lo, hi, rfl, h1, h2, _⟩ := lin_open hr
  exact ⟨b, o, f, B, d, lo, hi, rfl, hb, hc 0 (by decide), hc 1 (by decide), h1, h2, lin.loose hr⟩
theorem dr_of {w : World} {f : List Nat} {B M : Option Addr} {z : Int} {zs ms : List Int} {d e lo hi : Nat} (h1 : lin.rep false w f [.int .i64 z, .slice B zs.length d] (z, zs)) (h2 : Row lo hi w M (IntK.iv ms)) (he : ms.length ≤ e) :
    ∃ g, dr.rep false w g [.int .i64 z, .slice B zs.length d, .slice M ms.length e] ((z, zs), ms) ∧ ∀ i ∈ g, i ∈ f ∨ lo ≤ i := by
  obtain ⟨f2, g2, _, k2⟩ := ints_close (q := false) h2 (fun h => by cases h) he
  refine ⟨f ++ f2, ⟨f, f2, _, _, rfl, rfl, h1, g2⟩, fun i hi => ?_⟩
  rcases List.mem_append.1 hi with h | h
  · exact Or.inl h
  · exact Or.inr (k2 i h).1
def FRel1 (w2 : World) (xs : List (Int × List Int)) (v s : Value) (wr : World) : Prop := ∃ k : Nat, k ≤ xs.length ∧ s = .int .i64 k ∧ ListR w2 v ((rowsD xs.length xs).take k) wr
def FRel2 (w7 : World) (n : Nat) (L : List DR) (v s : Value) (wr : World) : Prop := ∃ (i : Nat) (M : List DR) (G : Option Addr) (g : Nat) (fp : List Nat), i ≤ n ∧ s = .int .i64 i ∧ v = .slice G M.length g ∧ elimN L i = some M ∧ drs.rep false wr fp [.slice G M.length g] M ∧ Below w7.heap.size w7 wr
theorem find_at {α : Type} {p : α → Bool} {L : List α} {k : Nat} (hk : k < L.length) (h : ∀ r ∈ L.take k, p r = false) (h2 : p L[k] = true) : L.find? p = some L[k] := by
  rw [List.find?_eq_some_iff_getElem]
  refine ⟨h2, k, hk, rfl, fun j hj => ?_⟩
  have := h L[j] (by rw [List.mem_take_iff_getElem]; exact ⟨j, by omega, rfl⟩)
  simp [this]
theorem find_none {α : Type} {p : α → Bool} {L : List α} (h : ∀ r ∈ L, p r = false) : L.find? p = none := by
  rw [List.find?_eq_none]
  intro r hr
  simp [h r hr]
/-- Behind the certificate's statement. -/
def AfterF (w : World) (sc : Int) (m : Nat) (ms : List Int) (s : Value) (wx : World) : Prop := ∃ b A c, s = .pointer (some ⟨b, 0, none⟩) ∧ w.heap.size ≤ b ∧ Lvar wx b #[.int .i64 sc, .slice A m c] ∧ IntK.Own w.heap.size wx.heap.size wx A ms ∧ Below w.heap.size w wx
theorem afterF_new {w w5 : World} {sc : Int} {m c : Nat} {ms : List Int} {A : Option Addr} {t : TypeId} (hd : Below w.heap.size w w5) (ho : IntK.Own w.heap.size w5.heap.size w5 A ms) :
    AfterF w sc m ms (.pointer (some ⟨w5.heap.size, 0, none⟩)) (w5.alloc (Obj.cells #[.int .i64 sc, .slice A m c] t)) := by
  have b : Below w5.heap.size w5 (w5.alloc (Obj.cells #[.int .i64 sc, .slice A m c] t)) := (Below.refl _ _).alloc (Nat.le_refl _) _
  have h := ho.below b
  exact ⟨_, A, c, rfl, hd.size, Lvar.new _ _ _, ⟨h.1.wider (Nat.le_refl _) b.size (Nat.le_refl _), h.2⟩, hd.alloc hd.size _⟩
theorem afterF_mid {w w5 : World} {sc : Int} {m c b base : Nat} {ms : List Int} {A : Option Addr} {x y : Value} (hd : Below w.heap.size w w5) (v : Lvar w5 b #[x, y]) (ho : w5.ownsRow base 3 1 (.slice A m c) (0 + m) ([] ++ IntK.iv ms)) (hb : w.heap.size ≤ b) (hbase : w.heap.size ≤ base) (hne : ∀ g, (Value.slice A m c).ownBlock = some g → g ≠ b) :
    AfterF w sc m ms (.pointer (some ⟨b, 0, none⟩)) ((w5.setCell ⟨b, 0, none⟩ (.int .i64 sc)).setCell ⟨b, 1, none⟩ (.slice A m c)) := by
  have hor : (Value.slice A m c).ownBlock = none ∨ (Value.slice A m c).ownBlock ≠ some b := Or.inr fun e => hne b e rfl
  have h1 := ho.kept (StrK.only_set w5 b 0 (.int .i64 sc)) hor
  have h2 := h1.kept (StrK.only_set _ b 1 (.slice A m c)) hor
  obtain ⟨A', c', e, hr, hf, _⟩ := of_own h2
  injection e with e1 e2 e3
  subst e1
  rw [List.nil_append, IntK.iv_len] at hf
  rw [List.nil_append] at hr
  have hv := (v.set 0 (.int .i64 sc)).set 1 (.slice A m c)
  exact ⟨b, A, c, rfl, hb, by simpa using hv, ⟨hr.wider hbase (Nat.le_refl _) (Nat.le_refl _), hf⟩, (hd.setCell hb _).setCell hb _⟩
theorem own_ne {b g n c : Nat} (h : b ≠ g) : (Value.slice (some ⟨b, 0, none⟩) n c).ownBlock ≠ some g := fun e => h (Option.some.inj e)
theorem own_eq {b g n c : Nat} (e : (Value.slice (some ⟨b, 0, none⟩) n c).ownBlock = some g) : b = g := Option.some.inj e
theorem wp_id {P : Program} {W : World} {o : Oper} {a : Act} {K : Act → World → Prop} {Q : Exit → Act → World → Prop} (h : Oper.wp P o a W K Q) : Oper.wp P o a W K Q := h
theorem wp_append_w {P : Program} {w : World} {o : Oper} {a : Act} {K : Act → World → Prop} {Q : Exit → Act → World → Prop} (s x : Operand) (t : TypeId)
    (ho : o.op = .call { callee := .builtin .append, args := #[s, x], argTypes := #[t, t] })
    (e : TypeId) (i : TypeInfo) (z : Value) (size bytes base : Nat) (ht : P.underlying t = some (.slice e)) (hi0 : P.info? e = some i) (hz : i.zero = some z)
    (hsize : i.size = size) (hby : i.bytes = bytes) (hzs : z.cells.size = size) (hsz : 0 < size) (v : Value) (n : Nat) (xs : List Value) (hs : a.eval s = v) (hown : w.ownsRow base e size v n xs)
    (ad : Addr) (m c : Nat) (news : List Value) (hx : a.eval x = .slice (some ad) m c) (hl : news.length = m * size) (hnews : ∀ j u, news[j]? = some u → w.cell? (ad.add j) = some u) (h1 : ∀ u ∈ news, u.oneCell' = true)
    (h63 : n + m ≤ maxLen) (hbytes : (n + m) * bytes ≤ 140737488355328) (hbase : base ≤ w.heap.size)
    (h : ∀ v' w', w'.ownsRow base e size v' (n + m) (xs ++ news) → w.grownBy w' v.ownBlock → (v'.ownBlock = v.ownBlock ∨ ∀ g, v'.ownBlock = some g → w.heap.size ≤ g) → K (a.put o.dst v') w') : Oper.wp P o a w K Q := by
  obtain ⟨v', w', hr, h2, h3, h4⟩ := run_append_where (P := P) t o.type e i z size bytes base ht hi0 hz hsize hby hzs hsz v n xs hown ad m c news hl hnews h1 h63 hbytes hbase
  unfold Oper.wp execOp
  simp only [ho, resolve, invoke, builtin, Sem.run_bind, Sem.run_pure, Result.andThen_ok, List.map_toArray, List.map_cons, List.map_nil, hs, hx, hr]
  exact h v' w' h2 h3 h4
theorem app_own {w5 : World} {base m : Nat} {v5 : Value} {ms : List Int} (h : w5.ownsRow base 3 1 v5 (0 + m) ([] ++ IntK.iv ms)) : ∃ A c, v5 = .slice A m c ∧ IntK.Own base w5.heap.size w5 A ms := by
  obtain ⟨A, c, rfl, hr, hf, _⟩ := of_own h
  rw [List.nil_append, IntK.iv_len] at hf
  rw [List.nil_append] at hr
  exact ⟨A, c, by rw [Nat.zero_add], hr, hf⟩
theorem row_news {w : World} {lo hi b o m : Nat} {zs : List Int} (h : Row lo hi w (some ⟨b, o, none⟩) (IntK.iv zs)) (j : Nat) (u : Value) (hu : (IntK.iv (zs.take m))[j]? = some u) : w.cell? ((⟨b, o, none⟩ : Addr).add j) = some u := by
  have h0 : zs ≠ [] := fun e => by subst e; simp [IntK.iv] at hu
  obtain ⟨b', o', e, _, hc⟩ := h (fun e => h0 (by simpa [IntK.iv] using e))
  injection e with e
  injection e with e1 e2
  subst e1
  subst e2
  have hadd : (⟨b, o, none⟩ : Addr).add j = ⟨b, o + j, none⟩ := by unfold Addr.add; split <;> simp_all
  rw [hadd]
  refine hc j u ?_
  unfold IntK.iv at hu ⊢
  rw [List.map_take, List.getElem?_take] at hu
  split at hu
  · exact hu
  · cases hu

set_option maxHeartbeats 8000000 in
set_option maxRecDepth 100000 in
theorem find (lo hi : Nat) (N : Int) (A T : Option Addr) (c d : Nat) (xs : List (Int × List Int)) (tz : Int) (ts : List Int) (w : World) (hA : SysK.Arg w A xs.length c xs) (hl : linsSize xs ≤ 1000000000) (hT : Row lo hi w T (IntK.iv ts)) (hlt : ts.length ≤ 1000000000) :
    Calls Try.prog 11 #[.agg #[.int .i64 N, .slice A xs.length c], .agg #[.int .i64 tz, .slice T ts.length d]] w (GaveO w (findF N xs (tz, ts))) := by
  have bb : Below w.heap.size w (((w.alloc (Obj.cells #[Value.int IntKind.i64 N, Value.slice A xs.length c] 26)).alloc (Obj.cells #[Value.int IntKind.i64 tz, Value.slice T ts.length d] 29)).alloc (Obj.cells #[Value.int IntKind.i64 0, Value.slice none 0 0] 33)) := (((Below.refl _ _).alloc (Nat.le_refl _) _).alloc (by simp) _).alloc (by simp; omega) _
  have V0 := Lib.hid (((Lvar.new w #[Value.int IntKind.i64 N, Value.slice A xs.length c] 26).alloc (Obj.cells #[Value.int IntKind.i64 tz, Value.slice T ts.length d] 29)).alloc (Obj.cells #[Value.int IntKind.i64 0, Value.slice none 0 0] 33))
  have t0 := (Lvar.new (w.alloc (Obj.cells #[Value.int IntKind.i64 N, Value.slice A xs.length c] 26)) #[Value.int IntKind.i64 tz, Value.slice T ts.length d] 29).alloc (Obj.cells #[Value.int IntKind.i64 0, Value.slice none 0 0] 33)
  have z0 := Lvar.new ((w.alloc (Obj.cells #[Value.int IntKind.i64 N, Value.slice A xs.length c] 26)).alloc (Obj.cells #[Value.int IntKind.i64 tz, Value.slice T ts.length d] 29)) #[Value.int IntKind.i64 0, Value.slice none 0 0] 33
  simp only [World.size_alloc] at t0 z0
  have T0 := Lib.hid t0
  have Z0 := Lib.hid z0
  have HS0 := Lib.hid (show w.heap.size + 3 ≤ (((w.alloc (Obj.cells #[Value.int IntKind.i64 N, Value.slice A xs.length c] 26)).alloc (Obj.cells #[Value.int IntKind.i64 tz, Value.slice T ts.length d] 29)).alloc (Obj.cells #[Value.int IntKind.i64 0, Value.slice none 0 0] 33)).heap.size by simp)
  have A0 := Lib.hid (hA.below bb)
  have R0 := Lib.hid (hT.below bb)
  have BB := Lib.hid bb
  obtain ⟨i0, hi0, hz0, hz1, hz2⟩ := info_parts drInfo
  have HI := Lib.hid hi0
  have HZ0 := Lib.hid hz0
  have HZ1 := Lib.hid hz1
  have HZ2 := Lib.hid hz2
  have hu := Lib.hid Try.underlying74
  have HR := Lib.hid (show findF N xs (tz, ts) = if SysS.sysV N xs = true ∧ vldB tz ts N = true then (startD N xs (tz, ts)).bind fun L => (elimN L N.toNat).bind fun M => pickD N xs (tz, ts) M else none from rfl)
  generalize findF N xs (tz, ts) = R at *
  clear bb t0 z0 hA hT hi0 hz0 hz1 hz2
  go_enter Try.func11, Try.ntmps11
  go_upto_region 1 with fail
  generalize (((w.alloc (Obj.cells #[Value.int IntKind.i64 N, Value.slice A xs.length c] 26)).alloc (Obj.cells #[Value.int IntKind.i64 tz, Value.slice T ts.length d] 29)).alloc (Obj.cells #[Value.int IntKind.i64 0, Value.slice none 0 0] 33)) = W0 at *
  have hs0 := HS0.out
  have VA := Lib.hid (SysK.valid N A c xs W0 A0.out hl)
  have v0 := V0.out.cell 0 (.int .i64 N) rfl
  have v1 := V0.out.cell 1 (.slice A xs.length c) rfl
  cases hv : SysS.sysV N xs with
  | false =>
    rw [hv] at VA
    go_wp2_with fail
    refine (Calls.mono VA.out) ?_
    rintro e w1 ⟨rfl, b1⟩
    have Z1 := Lib.hid (Z0.out.below b1)
    have B1 := Lib.hid (BB.out.trans (b1.mono BB.out.size))
    clear b1 v0 v1
    have HF := Lib.hid (show R = none from by rw [HR.out, hv]; exact if_neg (fun h => by cases h.1))
    have q0 := Z1.out.cell 0 (.int .i64 0) rfl
    have q1 := Z1.out.cell 1 (.slice none 0 0) rfl
    have p0 := Z1.out.frozen 0
    have p1 := Z1.out.frozen 1
    have HB := Lib.hid ((B1.out.setCell (p := ⟨w.heap.size + 1 + 1, 0, none⟩) (by simp; omega) (.int .i64 0)).setCell (p := ⟨w.heap.size + 1 + 1, 1, none⟩) (by simp; omega) (.slice none 0 0))
    go_wp2
    refine bodyPost_ret (v := .tuple #[.agg #[.int .i64 0, .slice none 0 0], .bool false]) (by simp [results, Try.results11, go_sem, q0, q1]) rfl ?_
    rw [HF.out]
    exact gaveO_none HB.out
  | true =>
    rw [hv] at VA
    go_wp2_with fail
    refine (Calls.mono VA.out) ?_
    rintro e w1 ⟨rfl, b1⟩
    have V1 := Lib.hid (V0.out.below b1)
    have T1 := Lib.hid (T0.out.below b1)
    have Z1 := Lib.hid (Z0.out.below b1)
    have A1 := Lib.hid (A0.out.below b1)
    have R1 := Lib.hid (R0.out.below b1)
    have B1 := Lib.hid (BB.out.trans (b1.mono BB.out.size))
    have hs1 := b1.size
    clear b1 v0 v1 V0 T0 Z0 A0 R0 BB VA
    have LV := Lib.hid (LinS.valid lo hi tz T d ts N w1 R1.out hlt)
    have v0 := V1.out.cell 0 (.int .i64 N) rfl
    have t0 := T1.out.cell 0 (.int .i64 tz) rfl
    have t1 := T1.out.cell 1 (.slice T ts.length d) rfl
    cases hvt : vldB tz ts N with
    | false =>
      rw [hvt] at LV
      go_wp2_with fail
      refine (Calls.mono LV.out) ?_
      rintro e w2 ⟨rfl, b2⟩
      have Z2 := Lib.hid (Z1.out.below b2)
      have B2 := Lib.hid (B1.out.trans (b2.mono B1.out.size))
      clear b2 v0 t0 t1
      have HF := Lib.hid (show R = none from by rw [HR.out, hvt]; exact if_neg (fun h => by cases h.2))
      have q0 := Z2.out.cell 0 (.int .i64 0) rfl
      have q1 := Z2.out.cell 1 (.slice none 0 0) rfl
      have p0 := Z2.out.frozen 0
      have p1 := Z2.out.frozen 1
      have HB := Lib.hid ((B2.out.setCell (p := ⟨w.heap.size + 1 + 1, 0, none⟩) (by simp; omega) (.int .i64 0)).setCell (p := ⟨w.heap.size + 1 + 1, 1, none⟩) (by simp; omega) (.slice none 0 0))
      go_wp2
      refine bodyPost_ret (v := .tuple #[.agg #[.int .i64 0, .slice none 0 0], .bool false]) (by simp [results, Try.results11, go_sem, q0, q1]) rfl ?_
      rw [HF.out]
      exact gaveO_none HB.out
    | true =>
      rw [hvt] at LV
      go_wp2_with fail
      refine (Calls.mono LV.out) ?_
      rintro e w2 ⟨rfl, b2⟩
      have hR2 := HR.out
      rw [if_pos ⟨hv, hvt⟩] at hR2
      have HR2 := Lib.hid hR2
      have hcn : cntB N = true := by
        unfold SysS.sysV at hv
        simp only [Bool.and_eq_true] at hv
        exact hv.2.1
      have hxl : xs.length ≤ 20 := by
        unfold SysS.sysV at hv
        simp only [Bool.and_eq_true, decide_eq_true_eq] at hv
        exact hv.2.2
      have hn := cntB_iff.1 hcn
      obtain ⟨n, rfl⟩ := Int.eq_ofNat_of_zero_le hn.1
      have hn8 : n ≤ 8 := by omega
      have HV := Lib.hid hv
      have HCN := Lib.hid hcn
      have V2 := Lib.hid (V1.out.below b2)
      have T2 := Lib.hid (T1.out.below b2)
      have Z2 := Lib.hid (Z1.out.below b2)
      have R2 := Lib.hid (R1.out.below b2)
      have B2 := Lib.hid (B1.out.trans (b2.mono B1.out.size))
      have hs2 := b2.size
      obtain ⟨q, fp, hA2⟩ := A1.out.below b2
      have HA := Lib.hid hA2
      clear b2 v0 t0 t1 V1 T1 Z1 A1 R1 B1 LV HR hR2 hv hvt hcn hn hA2
      have v1 := V2.out.cell 1 (.slice A xs.length c) rfl
      have S3 := Lib.hid (show ListR w2 (.slice (some ⟨w2.heap.size, 0, none⟩) 0 0) ((rowsD xs.length xs).take 0) (w2.alloc (.cells #[] 76)) from ⟨Listed.empty _ _ _, (Below.refl _ _).alloc (Nat.le_refl _) _⟩)
      have V3 := Lib.hid (V2.out.alloc (.cells #[] 76))
      have hmk := run_mk1 xs.length (by omega)
      have hwm : IntKind.i64.wrap ((xs.length : Int) + 1) = (xs.length : Int) + 1 := IntWalk.i64_in _ (by omega)
      go_upto_region 6 with fail
      clear v1
      generalize w2.alloc (.cells #[] 76) = w3 at *
      go_loopw [7, 8] (fun v s wr => FRel1 w2 xs v s wr) (fun _ s _ => xs.length - (intOf s).toNat)
      case atStart => exact ⟨0, Nat.zero_le _, rfl, S3.out⟩
      case round =>
        obtain ⟨k, hk, rfl, hL9, hB9⟩ := hrel
        clear S3 V3
        by_cases hlk : k < xs.length
        · have HT := Lib.hid (rows_take (m := xs.length) hlk)
          obtain ⟨b, o, f, B, d1, lo2, hi2, rfl, hbl, x0, x1, hd1, rx, hrep⟩ := lins_rep_at HA.out hlk
          have hfl := lin.lt hrep
          obtain ⟨um1, um2, um3⟩ := unit_made wr xs.length k (by omega) (by omega)
          have m4 : Below wr.heap.size wr (wr.alloc (.cells ((madeCells #[.int .i64 0] (xs.length + 1)).setIfInBounds k (.int .i64 1)) 3)) := (Below.refl _ _).alloc (Nat.le_refl _) _
          rw [alloc_set] at um3
          have M4 := Lib.hid m4
          have UM := Lib.hid um3
          have hi0' : (0 : Int) ≤ (k : Int) := by omega
          have hi1' : (k : Int) < (xs.length : Int) := by omega
          have hi2' : (k : Int) < (xs.length : Int) + 1 := by omega
          have HLN := Lib.hid (show ((rowsD xs.length xs).take k).length ≤ 4000 from by rw [List.length_take, rows_len]; omega)
          generalize xs[k] = x at *
          obtain ⟨z, zs⟩ := x
          simp only at x0 x1 hd1 rx hrep
          clear m4 um3
          go_upto_region 10 with fail
          clear um1 um2
          generalize wr.alloc (.cells ((madeCells #[.int .i64 0] (xs.length + 1)).setIfInBounds k (.int .i64 1)) 3) = w5 at *
          have VLW := Lib.hid (listed_lt hL9)
          have bw := hB9.trans (M4.out.mono hB9.size)
          have hws := hB9.size
          have hws5 := M4.out.size
          have hL9 := hL9.below M4.out
          have hB9 := bw
          have x0 := (bw.cell (p := ⟨b, o + k * 2, none⟩) hbl).trans x0
          have x1 := (bw.cell (p := ⟨b, o + k * 2 + 1, none⟩) hbl).trans x1
          have v1 := (V2.out.below bw).cell 1 (.slice (some ⟨b, o, none⟩) xs.length c) rfl
          obtain ⟨gd, hrd, hgd⟩ := dr_of (Rep.below hrep bw) UM.out (Nat.le_refl _)
          rw [unit_len] at hrd
          clear bw
          have VLT := Lib.hid (listed_lt hL9)
          obtain ⟨es, hes, hown, he, hd⟩ := hL9
          have HES := Lib.hid hes
          have HOW := Lib.hid hown
          have HEL := Lib.hid he
          have HD := Lib.hid hd
          have HBB := Lib.hid hB9
          clear hes hown he hd hB9
          go_wp2_with (at_builtin; go_loud (refine wpList_append_where rfl (.tmp 42) (.tmp 50) 74 rfl w2.heap.size 76 i0 (.agg #[.int .i64 0, .slice none 0 0, .slice none 0 0]) 3 56 hu.out HI.out HZ0.out HZ1.out HZ2.out rfl (by decide) _ _ _ rfl (HOW.out.alloc _) ⟨w5.heap.size, 0, none⟩ 1 1 [.int .i64 z, .slice B zs.length d1, .slice (some ⟨wr.heap.size, 0, none⟩) (xs.length + 1) (xs.length + 1)] rfl rfl (World.news_of_block (cs := #[.int .i64 z, .slice B zs.length d1, .slice (some ⟨wr.heap.size, 0, none⟩) (xs.length + 1) (xs.length + 1)]) (heap_alloc_new w5 _)) (by simp [Value.oneCell']) (by unfold maxLen; have := HLN.out; omega) (by have := HLN.out; omega) (by have := HBB.out.size; simp <;> omega) ?_); intro v4 w4 hown4 hgrow hwh)
          have hxd := Lib.hid (fun b' (hb' : b' ∈ gd) => (show _ ≠ some b' from fun e => by
            have h8 := HOW.out.lt b' e
            have h9 := VLW.out b' e
            rcases hgd b' hb' with h7 | h7
            · have := hfl b' h7; omega
            · omega))
          have hn := Lib.hid (listR_snoc HES.out HEL.out HD.out HBB.out HOW.out hrd hxd.out _ hown4 hgrow hwh)
          rw [← HT.out] at hn
          clear hown4 hgrow hwh x0 x1 v1 rx hrep hrd
          go_wp2
          go_roundw
          case rel => exact ⟨k + 1, by omega, by go_num, hn.out⟩
          case measure => simp [intOf]; omega
        · skip
          obtain rfl : k = xs.length := by omega
          have hL5 := hL9
          rw [List.take_of_length_le (by rw [rows_len]; exact Nat.le_refl _)] at hL5
          obtain ⟨w5, rfl⟩ : ∃ w5 : World, w5 = wr := ⟨_, rfl⟩
          have V5 := Lib.hid (V2.out.below hB9)
          have T5 := Lib.hid (T2.out.below hB9)
          have Z5 := Lib.hid (Z2.out.below hB9)
          have R5 := Lib.hid (R2.out.below hB9)
          have A5 := Lib.hid (Rep.below HA.out hB9)
          have B5 := Lib.hid (B2.out.trans (hB9.mono B2.out.size))
          have hs5 := hB9.size
          have L5 := Lib.hid hL5
          have B25 := Lib.hid hB9
          clear hL9 hB9 hL5
          have CO := Lib.hid (fun W => LinS.constC (-1) n W)
          have hs0' := constL_small (-1) (n : Int)
          have HNEG := Lib.hid (show negT (n : Int) (tz, ts) = addS (constL (-1) (n : Int)).1 (constL (-1) (n : Int)).2 (-1) tz ts from rfl)
          generalize constL (-1) (n : Int) = s0 at *
          have AS := Lib.hid (fun C0 c0 lo2 hi2 W (h1 : Below w5.heap.size w5 W) (h2 : Row lo2 hi2 W C0 (IntK.iv s0.2)) => LinS.addScaledC lo2 hi2 lo hi s0.1 (-1) tz C0 T c0 d s0.2 ts W h2 (R5.out.below h1) (by omega) hlt)
          generalize hr : addS s0.1 s0.2 (-1) tz ts = r at *
          clear hr
          have KS := Lib.hid (fun W (h : Below w5.heap.size w5 W) => (show W.cell? ⟨w.heap.size, 0, none⟩ = some (Value.int .i64 n) ∧ W.cell? ⟨w.heap.size + 1, 0, none⟩ = some (Value.int .i64 tz) ∧ W.cell? ⟨w.heap.size + 1, 1, none⟩ = some (Value.slice T ts.length d) from ⟨(V5.out.below h).cell 0 _ rfl, (T5.out.below h).cell 0 _ rfl, (T5.out.below h).cell 1 _ rfl⟩))
          obtain ⟨k0, k1, k2⟩ := KS.out w5 (Below.refl _ _)
          have lv5 := V5.out.lt
          have lt5 := T5.out.lt
          go_upto_region 11 with fail
          go_cut [10, 11] (fun s t wx => AfterO w5 r s t wx)
          case first =>
            go_region_held3 (fun w' => w'.cell? ⟨w.heap.size, 0, none⟩ = some (Value.int .i64 n) ∧ w'.cell? ⟨w.heap.size + 1, 0, none⟩ = some (Value.int .i64 tz) ∧ w'.cell? ⟨w.heap.size + 1, 1, none⟩ = some (Value.slice T ts.length d))
              (first | with_reducible exact KS.out _ hd5 | with_reducible exact KS.out _ hd4 | with_reducible exact KS.out _ (Below.refl _ _).drew | with_reducible exact KS.out _ (hd5.alloc hd5.size _) | with_reducible exact KS.out _ (hd4.alloc hd4.size _) | with_reducible exact KS.out _ ((Below.refl _ _).alloc (Nat.le_refl _) _).drew | with_reducible exact KS.out _ ((hd5.setCell (by first | (simp; done) | (exact hd4.size)) _).setCell (by first | (simp; done) | (exact hd4.size)) _))
              (first
                | (go_at_call 46; refine (Calls.mono (CO.out _)) ?_; rintro e u4 ⟨C2, g2, rfl, rc2, fc2, b4, hg2⟩; (have hd4 : Below w5.heap.size w5 u4 := by first | exact ((Below.refl w5.heap.size w5).drew).trans (b4.mono ((Below.refl w5.heap.size w5).drew).size) | exact (((Below.refl w5.heap.size w5).alloc (Nat.le_refl _) _).drew).trans (b4.mono (((Below.refl w5.heap.size w5).alloc (Nat.le_refl _) _).drew).size)); (try (have v4 : Lvar u4 w5.heap.size #[Value.int .i64 0, Value.slice none 0 0] := ((Lvar.new w5 _ _).below (Below.refl _ _).drew).below b4)))
                | (go_at_call 45; refine (Calls.mono (AS.out C2 g2 _ _ _ (by first | exact hd4 | exact hd4.alloc hd4.size _) (rc2.below (by first | exact Below.refl _ _ | exact (Below.refl _ _).alloc (Nat.le_refl _) _)))) ?_; rintro e u5 ⟨Aw, cw, rfl, rw5, fw5, b5, hcw⟩; (have hs5' : Below u4.heap.size u4 u5 := by first | exact b5 | exact ((Below.refl _ _).alloc (Nat.le_refl _) _).trans (b5.mono (by simp))); (have hd5 := hd4.trans (hs5'.mono hd4.size)); (try (have v5 := v4.below hs5')); (try (have v5 : Lvar u5 u4.heap.size #[Value.int .i64 0, Value.slice none 0 0] := (Lvar.new u4 _ _).below b5)); (try (have z0 := v5.cell 0 (Value.int .i64 0) rfl)); (try (have z1 := v5.cell 1 (Value.slice none 0 0) rfl)); (try (have y0 := v5.frozen 0)); (try (have y1 := v5.frozen 1))))
            all_goals (go_wp2_with fail)
            all_goals go_meet
            all_goals first | exact afterO_new hd5 rw5 (by first | exact hd4.size | (have := hd4.size; simp; omega)) hcw | exact afterO_old hd5 v5 rw5 (by first | exact hd4.size | exact Nat.le_refl _) (by first | exact v4.lt | (simp; done) | (simp; omega)) hcw
          case rest =>
            obtain ⟨w6, rfl⟩ : ∃ w6 : World, w6 = wc := ⟨_, rfl⟩
            obtain ⟨bg, Ag, cg, rfl, e11, hbg, Vg, Og, hcg, d6⟩ := hcut
            have V6 := Lib.hid (V5.out.below d6)
            have T6 := Lib.hid (T5.out.below d6)
            have Z6 := Lib.hid (Z5.out.below d6)
            have R6 := Lib.hid (R5.out.below d6)
            have A6 := Lib.hid (Rep.below A5.out d6)
            have B6 := Lib.hid (B5.out.trans (d6.mono B5.out.size))
            have B26 := Lib.hid (B25.out.trans (d6.mono B25.out.size))
            have L6 := Lib.hid (L5.out.below d6)
            have VLW := Lib.hid (listed_lt L5.out)
            have hs6 := d6.size
            have VG := Lib.hid Vg
            have OG := Lib.hid Og
            clear k0 k1 k2 KS AS CO V5 T5 Z5 R5 A5 B5 B25 L5 d6 Vg Og
            cases r with
            | none =>
              have e11 := (show _ = Value.bool false from e11)
              subst e11
              have HF := Lib.hid (show R = none from by rw [HR2.out]; unfold startD; rw [HNEG.out]; rfl)
              have q0 := Z6.out.cell 0 (.int .i64 0) rfl
              have q1 := Z6.out.cell 1 (.slice none 0 0) rfl
              have p0 := Z6.out.frozen 0
              have p1 := Z6.out.frozen 1
              have HB := Lib.hid ((B6.out.setCell (p := ⟨w.heap.size + 1 + 1, 0, none⟩) (by simp; omega) (.int .i64 0)).setCell (p := ⟨w.heap.size + 1 + 1, 1, none⟩) (by simp; omega) (.slice none 0 0))
              go_wp2
              refine bodyPost_ret (v := .tuple #[.agg #[.int .i64 0, .slice none 0 0], .bool false]) (by simp [results, Try.results11, go_sem, q0, q1]) rfl ?_
              rw [HF.out]
              exact gaveO_none HB.out
            | some t0 =>
              have e11 := (show _ = Value.bool true from e11)
              subst e11
              have VG := Lib.hid (show Lvar w6 bg #[.int .i64 t0.1, .slice Ag t0.2.length cg] from VG.out)
              have OG := Lib.hid (show Row w5.heap.size w6.heap.size w6 Ag (IntK.iv t0.2) from OG.out)
              have hcg' : t0.2.length ≤ cg := hcg
              have HL0 := Lib.hid (show startD (n : Int) xs (tz, ts) = some (rowsD xs.length xs ++ [(t0, unit xs.length xs.length)]) from by unfold startD; rw [HNEG.out]; rfl)
              have HVT := Lib.hid (negT_vld (t := (tz, ts)) HCN.out HNEG.out)
              have HOKL := Lib.hid (start_ok (xs := xs) HV.out HVT.out)
              have HLENL := Lib.hid (start_len (xs := xs) (g := t0) HV.out)
              have HR3 := Lib.hid (show R = (elimN (rowsD xs.length xs ++ [(t0, unit xs.length xs.length)]) n).bind fun M => pickD n xs (tz, ts) M from by rw [HR2.out, HL0.out, Option.bind_some, Int.toNat_natCast])
              obtain ⟨um1, um2, um3⟩ := unit_made w6 xs.length xs.length (Nat.le_refl _) (by omega)
              rw [alloc_set] at um3
              have M7 := Lib.hid (show Below w6.heap.size w6 (w6.alloc (.cells ((madeCells #[.int .i64 0] (xs.length + 1)).setIfInBounds xs.length (.int .i64 1)) 3)) from (Below.refl _ _).alloc (Nat.le_refl _) _)
              have UM := Lib.hid um3
              have hi0' : (0 : Int) ≤ (xs.length : Int) := by omega
              have hi2' : (xs.length : Int) < (xs.length : Int) + 1 := by omega
              have HLN := Lib.hid (show (rowsD xs.length xs).length ≤ 4000 from by rw [rows_len]; omega)
              clear um3 HR2 HNEG HL0 HVT hcg
              go_upto_region 16 with fail
              clear um1 um2
              generalize w6.alloc (.cells ((madeCells #[.int .i64 0] (xs.length + 1)).setIfInBounds xs.length (.int .i64 1)) 3) = w7 at *
              have hws7 := M7.out.size
              have hL9 := L6.out.below M7.out
              have hB9 := B26.out.trans (M7.out.mono B26.out.size)
              have VG7 := VG.out.below M7.out
              have g0 := VG7.cell 0 (.int .i64 t0.1) rfl
              have g1 := VG7.cell 1 (.slice Ag t0.2.length cg) rfl
              obtain ⟨gd, hrd, hgd⟩ := dr_close (z := t0.1) (OG.out.below M7.out) UM.out hcg' (Nat.le_refl _)
              rw [unit_len] at hrd
              clear VG7
              have VLT := Lib.hid (listed_lt hL9)
              obtain ⟨es, hes, hown, he, hd⟩ := hL9
              have HES := Lib.hid hes
              have HOW := Lib.hid hown
              have HEL := Lib.hid he
              have HD := Lib.hid hd
              have HBB := Lib.hid hB9
              clear hes hown he hd hB9
              go_wp2_with (at_builtin; go_loud (refine wpList_append_where rfl (.tmp 69) (.tmp 73) 74 rfl w2.heap.size 76 i0 (.agg #[.int .i64 0, .slice none 0 0, .slice none 0 0]) 3 56 hu.out HI.out HZ0.out HZ1.out HZ2.out rfl (by decide) _ _ _ rfl (HOW.out.alloc _) ⟨w7.heap.size, 0, none⟩ 1 1 [.int .i64 t0.1, .slice Ag t0.2.length cg, .slice (some ⟨w6.heap.size, 0, none⟩) (xs.length + 1) (xs.length + 1)] rfl rfl (World.news_of_block (cs := #[.int .i64 t0.1, .slice Ag t0.2.length cg, .slice (some ⟨w6.heap.size, 0, none⟩) (xs.length + 1) (xs.length + 1)]) (heap_alloc_new w7 _)) (by simp [Value.oneCell']) (by unfold maxLen; have := HLN.out; omega) (by have := HLN.out; omega) (by have := HBB.out.size; simp <;> omega) ?_); intro v4 w4 hown4 hgrow hwh)
              have hxd := Lib.hid (fun b' (hb' : b' ∈ gd) => (show _ ≠ some b' from fun e => by
                have h9 := VLW.out b' e
                rcases hgd b' hb' with h7 | h7 <;> omega))
              have hn := listR_snoc HES.out HEL.out HD.out HBB.out HOW.out hrd hxd.out _ hown4 hgrow hwh
              obtain ⟨w8, rfl⟩ : ∃ w8 : World, w8 = w4 := ⟨_, rfl⟩
              have V8 := Lib.hid (V2.out.below hn.2)
              have T8 := Lib.hid (T2.out.below hn.2)
              have Z8 := Lib.hid (Z2.out.below hn.2)
              have R8 := Lib.hid (R2.out.below hn.2)
              have A8 := Lib.hid (Rep.below HA.out hn.2)
              have B8 := Lib.hid (B2.out.trans (hn.2.mono B2.out.size))
              have hs8 := hn.2.size
              obtain ⟨GL, gL, fL, rfl, hGL⟩ := Listed.rep hn.1 (by decide)
              have HGL := Lib.hid hGL
              generalize rowsD xs.length xs ++ [(t0, unit xs.length xs.length)] = L0 at *
              clear hn hGL hown4 hgrow hwh hrd hgd hxd g0 g1 hmk hwm HES HOW HEL HD HBB VLT VLW V6 T6 Z6 R6 A6 B6 B26 L6 OG VG UM M7 V2 T2 Z2 R2 B2 HA
              go_wp2
              go_loopw [7, 13] (fun v s wr => FRel2 w8 n L0 v s wr) (fun _ s _ => 10 - (intOf s).toNat)
              case atStart => exact ⟨0, L0, GL, gL, fL, Nat.zero_le _, rfl, rfl, rfl, HGL.out, Below.refl _ _⟩
              case round =>
                obtain ⟨i, M, G, g, fg, hin, rfl, rfl, hM, hrep, hb⟩ := hrel
                obtain ⟨w9, rfl⟩ : ∃ w9 : World, w9 = wr := ⟨_, rfl⟩
                have HM := Lib.hid hM
                have HREP := Lib.hid hrep
                have B89 := Lib.hid hb
                have V9 := Lib.hid (V8.out.below hb)
                have Z9 := Lib.hid (Z8.out.below hb)
                have B9 := Lib.hid (B8.out.trans (hb.mono B8.out.size))
                have hs9 := hb.size
                have HOKM := Lib.hid (elimN_ok HOKL.out hM)
                have hM60 := elimN_len HLENL.out hM
                have v0 := V9.out.cell 0 (.int .i64 n) rfl
                clear hM hrep hb HGL
                by_cases hilt : i < n
                · have EL := Lib.hid (eliminate false fg G g i M w9 HOKM.out (by omega) (by omega) hM60 HREP.out)
                  have HNX := Lib.hid (elimN_next HM.out)
                  have hi0' : (0 : Int) ≤ (i : Int) := by omega
                  have hi1' : (i : Int) < (n : Int) := by omega
                  generalize elimD M i = M2 at *
                  go_wp2_with fail
                  refine (Calls.mono EL.out) ?_
                  rintro e w10 ⟨G10, g10, f10, rfl, rep10, b10⟩
                  have B810 := Lib.hid (B89.out.trans (b10.mono B89.out.size))
                  have Z10 := Lib.hid (Z9.out.below b10)
                  have B10 := Lib.hid (B9.out.trans (b10.mono B9.out.size))
                  have REP10 := Lib.hid rep10
                  clear b10 rep10 v0 EL
                  by_cases h60 : M2.length ≤ 60
                  · have hd60 : decide ((60 : Int) < (M2.length : Int)) = false := decide_eq_false (by omega)
                    have HN2 := Lib.hid (show elimN L0 (i + 1) = some M2 from by rw [HNX.out, if_pos h60])
                    clear HNX h60
                    go_wp2
                    go_roundw
                    case rel => exact ⟨i + 1, M2, G10, g10, f10, by omega, by go_num, rfl, HN2.out, REP10.out, B810.out⟩
                    case measure => simp [intOf]; omega
                  · have hd60 : decide ((60 : Int) < (M2.length : Int)) = true := decide_eq_true (by omega)
                    have HF := Lib.hid (show R = none from by rw [HR3.out, elimN_mono (show i + 1 ≤ n by omega) (by rw [HNX.out, if_neg h60])]; rfl)
                    have q0 := Z10.out.cell 0 (.int .i64 0) rfl
                    have q1 := Z10.out.cell 1 (.slice none 0 0) rfl
                    have p0 := Z10.out.frozen 0
                    have p1 := Z10.out.frozen 1
                    have HB := Lib.hid ((B10.out.setCell (p := ⟨w.heap.size + 1 + 1, 0, none⟩) (by simp; omega) (.int .i64 0)).setCell (p := ⟨w.heap.size + 1 + 1, 1, none⟩) (by simp; omega) (.slice none 0 0))
                    go_wp2
                    refine bodyPost_ret (v := .tuple #[.agg #[.int .i64 0, .slice none 0 0], .bool false]) (by simp [results, Try.results11, go_sem, q0, q1]) rfl ?_
                    rw [HF.out]
                    exact gaveO_none HB.out
                · obtain rfl : i = n := by omega
                  have hiz : decide ((i : Int) < (i : Int)) = false := by simp
                  have HR4 := Lib.hid (show R = pickD i xs (tz, ts) M from by rw [HR3.out, HM.out]; rfl)
                  have T9 := Lib.hid (T8.out.below B89.out)
                  have R9 := Lib.hid (R8.out.below B89.out)
                  have A9 := Lib.hid (Rep.below A8.out B89.out)
                  clear HR3 V8 Z8 B8 T8 R8 A8 B89
                  go_wp2
                  go_loop [14] (fun s => ∃ k : Nat, k ≤ M.length ∧ s = .int .i64 k ∧ ∀ r ∈ M.take k, decide (r.1.1 < 0) = false) (fun s => M.length - (intOf s).toNat)
                  case atStart => exact ⟨0, Nat.zero_le _, rfl, fun r h => by simp at h⟩
                  case round =>
                    obtain ⟨k, hk, rfl, hpre⟩ := hrel
                    have HPRE := Lib.hid hpre
                    clear hpre
                    by_cases hlk : k < M.length
                    · obtain ⟨bm, om, fm, Bm, dm, Cm, em, lom, him, lom', him', rfl, hblm, c0, c1, c2, hdm, hem, r1m, r2m, hrepm, hfm⟩ := drs_at HREP.out hlk
                      have hokm := HOKM.out _ (List.getElem_mem hlk)
                      have HPK := Lib.hid (fun h => find_at (p := fun r : DR => decide (r.1.1 < 0)) hlk HPRE.out h)
                      have HPN := Lib.hid (fun (h : decide (M[k].1.1 < 0) = false) => (show ∀ r ∈ M.take (k + 1), decide (r.1.1 < 0) = false from fun r hr => by
                        rw [List.take_add_one, List.getElem?_eq_getElem hlk] at hr
                        rcases List.mem_append.1 hr with hr | hr
                        · exact HPRE.out r hr
                        · have : r = M[k] := by simpa using hr
                          rw [this]; exact h))
                      have hi0' : (0 : Int) ≤ (k : Int) := by omega
                      have hi1' : (k : Int) < (M.length : Int) := by omega
                      generalize M[k] = x at *
                      clear HPRE
                      by_cases hx : x.1.1 < 0
                      · have hxd : decide (x.1.1 < 0) = true := decide_eq_true hx
                        have HR5 := Lib.hid (show R = if checkF i xs (tz, ts) (x.2.getD xs.length 0) (x.2.take xs.length) = true then some (x.2.getD xs.length 0, x.2.take xs.length) else none from by rw [HR4.out]; unfold pickD; rw [HPK.out hxd]; rfl)
                        have hx2 := hokm.2
                        have hxi : xs.length < x.2.length := by omega
                        obtain ⟨bc, oc, rfl, hbc, cc⟩ := IntK.at_ r2m hxi
                        have hbcl := World.block_lt_of_cell? _ _ cc
                        have hbm2 : bm < w9.heap.size := hblm
                        obtain ⟨sc, hsc⟩ : ∃ sc : Int, x.2[xs.length] = sc := ⟨_, rfl⟩
                        rw [hsc] at cc
                        have hgd : x.2.getD xs.length 0 = sc := by rw [List.getD_eq_getElem?_getD, List.getElem?_eq_getElem hxi, hsc]; rfl
                        rw [hgd] at HR5
                        obtain ⟨ms, hms⟩ : ∃ ms : List Int, x.2.take xs.length = ms := ⟨_, rfl⟩
                        have hml : ms.length = xs.length := by rw [← hms, List.length_take]; omega
                        have HML := Lib.hid hml
                        have HMLEN := Lib.hid (show (IntK.iv ms).length = xs.length * 1 from by rw [IntK.iv_len, hml, Nat.mul_one])
                        have HNW := Lib.hid (fun W (h : Below w9.heap.size w9 W) j u (hu : (IntK.iv ms)[j]? = some u) => row_news (m := xs.length) (r2m.below h) j u (by rw [hms]; exact hu))
                        have HONE := Lib.hid (show ∀ u ∈ IntK.iv ms, u.oneCell' = true from fun u hu => by
                          obtain ⟨z, _, rfl⟩ := List.mem_map.1 hu
                          rfl)
                        rw [hms] at HR5
                        have hj0 : (0 : Int) ≤ (xs.length : Int) := by omega
                        have hj1 : (xs.length : Int) < (x.2.length : Int) := by omega
                        have hj2 : (xs.length : Int) ≤ (em : Int) := by omega
                        have hj3 : xs.length ≤ em := by omega
                        obtain ⟨ii, hii, hj00, hj11, hj22⟩ := info_parts IntK.intInfo
                        have HII := Lib.hid hii
                        have HJ0 := Lib.hid hj00
                        have HJ1 := Lib.hid hj11
                        have HJ2 := Lib.hid hj22
                        have hui := Lib.hid Try.underlying27
                        have DA := Lib.hid (show Below w9.heap.size w9 (w9.alloc (.cells #[] 3)).drew from ((Below.refl _ _).alloc (Nat.le_refl _) _).drew)
                        have DB := Lib.hid (show Below w9.heap.size w9 ((w9.alloc (Obj.cells #[Value.int IntKind.i64 0, Value.slice none 0 0] 33)).alloc (.cells #[] 3)).drew from (((Below.refl _ _).alloc (Nat.le_refl _) _).alloc (by simp) _).drew)
                        have DC := Lib.hid (show Below w9.heap.size w9 ((w9.alloc (.cells #[] 3)).alloc (Obj.cells #[Value.int IntKind.i64 0, Value.slice none 0 0] 33)).drew from (((Below.refl _ _).alloc (Nat.le_refl _) _).alloc (by simp) _).drew)
                        have OWA := Lib.hid (own_empty w9).drew
                        have owb := (own_empty (w9.alloc (Obj.cells #[Value.int IntKind.i64 0, Value.slice none 0 0] 33))).drew
                        simp only [World.size_alloc] at owb
                        have OWB := Lib.hid owb
                        have OWC := Lib.hid ((own_empty w9).alloc (Obj.cells #[Value.int IntKind.i64 0, Value.slice none 0 0] 33)).drew
                        have VB := Lib.hid (show Lvar ((w9.alloc (Obj.cells #[Value.int IntKind.i64 0, Value.slice none 0 0] 33)).alloc (.cells #[] 3)).drew w9.heap.size #[Value.int IntKind.i64 0, Value.slice none 0 0] from ((Lvar.new w9 _ _).alloc _).below (Below.refl _ _).drew)
                        have vc := (Lvar.new (w9.alloc (.cells #[] 3)) #[Value.int IntKind.i64 0, Value.slice none 0 0] 33).below (Below.refl _ _).drew
                        simp only [World.size_alloc] at vc
                        have VC := Lib.hid vc
                        have KS := Lib.hid (fun W (h : Below w9.heap.size w9 W) => (show W.cell? ⟨bm, om + k * 3 + 2, none⟩ = some (Value.slice (some ⟨bc, oc, none⟩) x.2.length em) ∧ W.cell? ⟨bc, oc + xs.length, none⟩ = some (Value.int .i64 sc) from ⟨(h.cell (p := ⟨bm, om + k * 3 + 2, none⟩) hbm2).trans c2, (h.cell (p := ⟨bc, oc + xs.length, none⟩) hbcl).trans cc⟩))
                        clear hii hj00 hj11 hj22 owb vc hx2 hms hml hgd hsc hokm hdm hem hrepm r1m r2m HPK HPN hx hxi
                        go_upto_region 27 with fail
                        clear c0 c1 c2 cc
                        obtain ⟨k0, k1⟩ := KS.out _ (Below.refl w9.heap.size w9).drew
                        go_cut [15] from 88 to 125 (fun s wx => AfterF w9 sc xs.length ms s wx)
                        case first =>
                          go_region_held3 (fun w' => w'.cell? ⟨bm, om + k * 3 + 2, none⟩ = some (Value.slice (some ⟨bc, oc, none⟩) x.2.length em) ∧ w'.cell? ⟨bc, oc + xs.length, none⟩ = some (Value.int .i64 sc))
                            (first | with_reducible exact KS.out _ (Below.refl _ _).drew | with_reducible exact KS.out _ hd5 | with_reducible exact KS.out _ DA.out | with_reducible exact KS.out _ DB.out | with_reducible exact KS.out _ DC.out | with_reducible exact KS.out _ hd5.drew | with_reducible exact KS.out _ ((Below.refl _ _).alloc (Nat.le_refl _) _).drew | with_reducible exact KS.out _ (hd5.alloc hd5.size _) | with_reducible exact KS.out _ ((hd5.setCell (by first | exact Nat.le_refl _ | (simp; done)) _).setCell (by first | exact Nat.le_refl _ | (simp; done)) _))
                            (first
                              | (rw [if_pos (by rfl)]; with_reducible (refine wp_id (W := (w9.alloc (.cells #[] 3)).drew) ?_); refine wp_append_w (.tmp 109) (.tmp 116) 27 rfl 3 ii (.int .i64 0) 1 8 w9.heap.size hui.out HII.out HJ0.out HJ1.out HJ2.out rfl (by decide) (.slice (some ⟨w9.heap.size, 0, none⟩) 0 0) 0 [] rfl OWA.out ⟨bc, oc, none⟩ xs.length em (IntK.iv ms) rfl HMLEN.out (HNW.out _ DA.out) HONE.out (by unfold maxLen; omega) (by omega) (by first | (simp; done) | (simp; omega)) ?_; intro v5 w5 hown5 hgrow5 hwh5; (obtain ⟨A5, c5, rfl, O5⟩ := app_own hown5); (have hd5 : Below w9.heap.size w9 w5 := DA.out.grown hgrow5 (by first | (simp; done) | (simp; omega)) (fun j hj => (OWA.out.lt j hj).1)))
                              | (rw [if_pos (by rfl)]; with_reducible (refine wp_id (W := ((w9.alloc (Obj.cells #[Value.int IntKind.i64 0, Value.slice none 0 0] 33)).alloc (.cells #[] 3)).drew) ?_); refine wp_append_w (.tmp 109) (.tmp 116) 27 rfl 3 ii (.int .i64 0) 1 8 (w9.heap.size + 1) hui.out HII.out HJ0.out HJ1.out HJ2.out rfl (by decide) (.slice (some ⟨w9.heap.size + 1, 0, none⟩) 0 0) 0 [] rfl OWB.out ⟨bc, oc, none⟩ xs.length em (IntK.iv ms) rfl HMLEN.out (HNW.out _ DB.out) HONE.out (by unfold maxLen; omega) (by omega) (by first | (simp; done) | (simp; omega)) ?_; intro v5 w5 hown5 hgrow5 hwh5; (obtain ⟨A5, c5, rfl, O5⟩ := app_own hown5); (have hd5 : Below w9.heap.size w9 w5 := DB.out.grown hgrow5 (by first | (simp; done) | (simp; omega)) (fun j hj => Nat.le_trans (Nat.le_succ _) (OWB.out.lt j hj).1)); (have v5 := lvar_grown VB.out hgrow5 (own_ne (by omega))); (have z0 := v5.cell 0 (Value.int .i64 0) rfl); (have z1 := v5.cell 1 (Value.slice none 0 0) rfl); (have y0 := v5.frozen 0); (have y1 := v5.frozen 1))
                              | (rw [if_pos (by rfl)]; with_reducible (refine wp_id (W := ((w9.alloc (.cells #[] 3)).alloc (Obj.cells #[Value.int IntKind.i64 0, Value.slice none 0 0] 33)).drew) ?_); refine wp_append_w (.tmp 109) (.tmp 116) 27 rfl 3 ii (.int .i64 0) 1 8 w9.heap.size hui.out HII.out HJ0.out HJ1.out HJ2.out rfl (by decide) (.slice (some ⟨w9.heap.size, 0, none⟩) 0 0) 0 [] rfl OWC.out ⟨bc, oc, none⟩ xs.length em (IntK.iv ms) rfl HMLEN.out (HNW.out _ DC.out) HONE.out (by unfold maxLen; omega) (by omega) (by first | (simp; done) | (simp; omega)) ?_; intro v5 w5 hown5 hgrow5 hwh5; (obtain ⟨A5, c5, rfl, O5⟩ := app_own hown5); (have hd5 : Below w9.heap.size w9 w5 := DC.out.grown hgrow5 (by first | (simp; done) | (simp; omega)) (fun j hj => (OWC.out.lt j hj).1)); (have v5 := lvar_grown VC.out hgrow5 (own_ne (by omega))); (have z0 := v5.cell 0 (Value.int .i64 0) rfl); (have z1 := v5.cell 1 (Value.slice none 0 0) rfl); (have y0 := v5.frozen 0); (have y1 := v5.frozen 1)))
                          all_goals (go_wp2_with fail)
                          all_goals go_meet
                          all_goals first | exact afterF_new hd5 O5 | exact afterF_mid hd5 v5 hown5 (Nat.le_refl _) (Nat.le_succ _) (fun g e => by have := (hown5.lt g e).1; omega) | exact afterF_mid hd5 v5 hown5 (Nat.le_succ _) (Nat.le_refl _) (fun g e => by
                            rcases hwh5 with h | h
                            · have e2 := own_eq (h.symm.trans e)
                              omega
                            · have h3 := h g e
                              simp at h3
                              omega)
                        case rest =>
                          obtain ⟨w10, rfl⟩ : ∃ w10 : World, w10 = wc := ⟨_, rfl⟩
                          obtain ⟨b15, A5, c5, rfl, hb15, V15, O15, d10⟩ := hcut
                          have V10 := V9.out.below d10
                          have T10 := T9.out.below d10
                          have Z10 := Lib.hid (Z9.out.below d10)
                          have F10 := Lib.hid V15
                          have O10 := Lib.hid O15
                          have B10 := Lib.hid (B9.out.trans (d10.mono B9.out.size))
                          have hs10 := d10.size
                          have v0 := V10.cell 0 (.int .i64 i) rfl
                          have v1 := V10.cell 1 (.slice A xs.length c) rfl
                          have t0 := T10.cell 0 (.int .i64 tz) rfl
                          have t1 := T10.cell 1 (.slice T ts.length d) rfl
                          have f0 := V15.cell 0 (.int .i64 sc) rfl
                          have f1 := V15.cell 1 (.slice A5 xs.length c5) rfl
                          have ck := FarkS.checkFarkas _ _ lo hi i A A5 T c c5 d xs ms tz ts sc w10 ⟨_, _, Rep.below A9.out d10⟩ hl O15.1 (by have := HML.out; omega) (R9.out.below d10) hlt
                          rw [HML.out] at ck
                          have CK := Lib.hid ck
                          clear k0 k1 KS V15 O15 d10 ck DA DB DC OWA OWB OWC VB VC HNW HONE HMLEN
                          cases hck : checkF i xs (tz, ts) sc ms with
                          | false =>
                            rw [hck] at CK
                            have HF := Lib.hid (show R = none from by rw [HR5.out, hck]; rfl)
                            go_wp2_with fail
                            refine (Calls.mono CK.out) ?_
                            rintro e w11 ⟨rfl, b11⟩
                            have Z11 := Lib.hid (Z10.out.below b11)
                            have B11 := Lib.hid (B10.out.trans (b11.mono B10.out.size))
                            have q0 := Z11.out.cell 0 (.int .i64 0) rfl
                            have q1 := Z11.out.cell 1 (.slice none 0 0) rfl
                            have p0 := Z11.out.frozen 0
                            have p1 := Z11.out.frozen 1
                            have HB := Lib.hid ((B11.out.setCell (p := ⟨w.heap.size + 1 + 1, 0, none⟩) (by simp; omega) (.int .i64 0)).setCell (p := ⟨w.heap.size + 1 + 1, 1, none⟩) (by simp; omega) (.slice none 0 0))
                            clear b11 v0 v1 t0 t1 f0 f1
                            go_wp2
                            refine bodyPost_ret (v := .tuple #[.agg #[.int .i64 0, .slice none 0 0], .bool false]) (by simp [results, Try.results11, go_sem, q0, q1]) rfl ?_
                            rw [HF.out]
                            exact gaveO_none HB.out
                          | true =>
                            rw [hck] at CK
                            have HF := Lib.hid (show R = some (sc, ms) from by rw [HR5.out, hck]; rfl)
                            go_wp2_with fail
                            refine (Calls.mono CK.out) ?_
                            rintro e w11 ⟨rfl, b11⟩
                            have Z11 := Lib.hid (Z10.out.below b11)
                            have F11 := F10.out.below b11
                            have O11 := O10.out.below b11
                            have B11 := Lib.hid (B10.out.trans (b11.mono B10.out.size))
                            have hs11 := b11.size
                            have hsz := Z9.out.lt
                            have f0 := F11.cell 0 (.int .i64 sc) rfl
                            have f1 := F11.cell 1 (.slice A5 xs.length c5) rfl
                            have q0 := Z11.out.cell 0 (.int .i64 0) rfl
                            have q1 := Z11.out.cell 1 (.slice none 0 0) rfl
                            have p0 := Z11.out.frozen 0
                            have p1 := Z11.out.frozen 1
                            have mm : Mod (w.heap.size + 1 + 1) (w.heap.size + 1 + 1 + 1) w11 ((w11.setCell ⟨w.heap.size + 1 + 1, 0, none⟩ (.int .i64 sc)).setCell ⟨w.heap.size + 1 + 1, 1, none⟩ (.slice A5 xs.length c5)) := (Mod.set _ (p := ⟨w.heap.size + 1 + 1, 0, none⟩) (Nat.le_refl _) (Nat.lt_succ_self _) _).trans (Mod.set _ (p := ⟨w.heap.size + 1 + 1, 1, none⟩) (Nat.le_refl _) (Nat.lt_succ_self _) _)
                            have O12 := O11.keep mm (Or.inr (by omega))
                            have hfin : GaveO w R (.returned (.tuple #[.agg #[.int .i64 sc, .slice A5 xs.length c5], .bool true])) ((w11.setCell ⟨w.heap.size + 1 + 1, 0, none⟩ (.int .i64 sc)).setCell ⟨w.heap.size + 1 + 1, 1, none⟩ (.slice A5 xs.length c5)) := by
                              rw [HF.out]
                              refine ⟨A5, c5, ?_, O12.1.wider (by omega) (Nat.le_trans hs11 mm.size) (Nat.le_refl _), O12.2, below_mod B11.out mm (by omega) B11.out.size⟩
                              show _ = Ending.returned (.tuple #[.agg #[.int .i64 sc, .slice A5 ms.length c5], .bool true])
                              rw [HML.out]
                            have HFIN := Lib.hid hfin
                            clear hfin mm O12 O11 F11 b11 v0 v1 t0 t1
                            go_wp2
                            refine bodyPost_ret (v := .tuple #[.agg #[.int .i64 sc, .slice A5 xs.length c5], .bool true]) (by simp [results, Try.results11, go_sem, q0, q1]) rfl HFIN.out
                      · have hxd : decide (x.1.1 < 0) = false := decide_eq_false hx
                        have HN2 := Lib.hid (HPN.out hxd)
                        clear HPN HPK hx
                        go_wp2
                        go_round
                        case rel => exact ⟨k + 1, by omega, by go_num, HN2.out⟩
                        case measure => simp [intOf]; omega
                    · obtain rfl : k = M.length := by omega
                      have hlz : decide ((M.length : Int) < (M.length : Int)) = false := by simp
                      have HNO := Lib.hid (show R = none from by
                        rw [HR4.out]
                        have h := HPRE.out
                        rw [List.take_length] at h
                        unfold pickD
                        rw [find_none h]
                        rfl)
                      have HF := Lib.hid (show R = none from HNO.out)
                      have q0 := Z9.out.cell 0 (.int .i64 0) rfl
                      have q1 := Z9.out.cell 1 (.slice none 0 0) rfl
                      have p0 := Z9.out.frozen 0
                      have p1 := Z9.out.frozen 1
                      have HB := Lib.hid ((B9.out.setCell (p := ⟨w.heap.size + 1 + 1, 0, none⟩) (by simp; omega) (.int .i64 0)).setCell (p := ⟨w.heap.size + 1 + 1, 1, none⟩) (by simp; omega) (.slice none 0 0))
                      go_wp2
                      refine bodyPost_ret (v := .tuple #[.agg #[.int .i64 0, .slice none 0 0], .bool false]) (by simp [results, Try.results11, go_sem, q0, q1]) rfl ?_
                      rw [HF.out]
                      exact gaveO_none HB.out
end ElimS
end Go.Proofs.Ytmkelfjnjnjgbaa
