import Derived.Test.YtieacfenoomaeaaQm1
set_option linter.unusedSimpArgs false
set_option linter.unusedVariables false
namespace Go.Proofs.Ytieacfenoomaeaa
open Go.RowKit

/-- How many inputs a block has, and how many inputs and outputs. -/
def inN : Nat → Nat
  | 0 | 1 | 2 => 2
  | 3 | 4 => 3
  | 5 | 6 => 2
  | _ => 1
def ioN : Nat → Nat
  | 0 | 1 | 2 => 4
  | 3 | 4 => 5
  | 5 | 6 => 3
  | _ => 2
/-- The cells of a block, behind an execution with these inputs. -/
def nxt (i : Nat) (zs row : List Int) (t : Int) : List Int := stp i (row ++ zs.drop row.length) t
/-- The cells behind the first executions. -/
def nxts (i : Nat) : List Int → List (List Int) → List Int → List Int
  | zs, [], _ => zs
  | zs, r :: rs, ts => nxts i (nxt i zs r (ts.headD 0)) rs ts.tail
/-- What a block puts out. -/
def outN (i : Nat) (zs : List Int) : List Int := (zs.drop (inN i)).take (ioN i - inN i)
/-- What an execution puts out, one after the other. -/
def runR (i : Nat) : List Int → List (List Int) → List Int → List (List Int)
  | _, [], _ => []
  | zs, r :: rs, ts => outN i (nxt i zs r (ts.headD 0)) :: runR i (nxt i zs r (ts.headD 0)) rs ts.tail
theorem runR_len (i : Nat) : ∀ (rs : List (List Int)) (zs ts : List Int), (runR i zs rs ts).length = rs.length
  | [], _, _ => rfl
  | r :: rs, zs, ts => by rw [runR, List.length_cons, List.length_cons, runR_len i rs]
theorem nxts_snoc (i : Nat) : ∀ (k : Nat) (rs : List (List Int)) (zs ts : List Int) (h : k < rs.length), k < ts.length →
    nxts i zs (rs.take (k + 1)) ts = nxt i (nxts i zs (rs.take k) ts) rs[k] (ts.getD k 0)
  | 0, r :: rs, zs, t :: ts, _, _ => by simp [nxts]
  | k + 1, r :: rs, zs, t :: ts, h, h2 => by
    simp only [List.take_succ_cons, nxts, List.getElem_cons_succ, List.headD_cons, List.tail_cons]
    rw [nxts_snoc i k rs _ ts (by simpa using h) (by simpa using h2)]
    simp [List.getD_eq_getElem?_getD]
theorem runR_snoc (i : Nat) : ∀ (k : Nat) (rs : List (List Int)) (zs ts : List Int) (h : k < rs.length), k < ts.length →
    runR i zs (rs.take (k + 1)) ts = runR i zs (rs.take k) ts ++ [outN i (nxts i zs (rs.take (k + 1)) ts)]
  | 0, r :: rs, zs, t :: ts, _, _ => by simp [nxts, runR]
  | k + 1, r :: rs, zs, t :: ts, h, h2 => by
    simp only [List.take_succ_cons, nxts, runR, List.headD_cons, List.tail_cons]
    rw [runR_snoc i k rs _ ts (by simpa using h) (by simpa using h2)]
    simp

theorem areV_append : ∀ {ka kb za zb : List Int}, areV ka za = true → areV kb zb = true → areV (ka ++ kb) (za ++ zb) = true
  | [], _, [], _, _, h2 => h2
  | [], _, _ :: _, _, h1, _ => by simp [areV] at h1
  | _ :: _, _, [], _, h1, _ => by simp [areV] at h1
  | k :: ka, kb, z :: za, zb, h1, h2 => by
    rw [areV, Bool.and_eq_true] at h1
    rw [List.cons_append, List.cons_append, areV, Bool.and_eq_true]
    exact ⟨h1.1, areV_append h1.2 h2⟩
theorem areV_drop : ∀ {ks zs : List Int} (n : Nat), areV ks zs = true → areV (ks.drop n) (zs.drop n) = true
  | _, _, 0, h => h
  | [], [], _ + 1, _ => rfl
  | [], _ :: _, _ + 1, h => by simp [areV] at h
  | _ :: _, [], _ + 1, h => by simp [areV] at h
  | _ :: ks, _ :: zs, n + 1, h => by
    rw [areV, Bool.and_eq_true] at h
    exact areV_drop n h.2
/-- The kinds of the inputs. -/
def kinIn (i : Nat) : List Int := (kin i).take (inN i)
theorem inN_len {i : Nat} (hi : i < 9) : (kinIn i).length = inN i := by
  rcases (show i = 0 ∨ i = 1 ∨ i = 2 ∨ i = 3 ∨ i = 4 ∨ i = 5 ∨ i = 6 ∨ i = 7 ∨ i = 8 by omega) with rfl | rfl | rfl | rfl | rfl | rfl | rfl | rfl | rfl <;> rfl
/-- A row of inputs over the first cells. -/
theorem over_kin {i : Nat} (hi : i < 9) {zs row : List Int} (hv : areV (kin i) zs = true) (hr : areV (kinIn i) row = true) : areV (kin i) (row ++ zs.drop row.length) = true := by
  have hl : row.length = inN i := by rw [← areV_len hr, inN_len hi]
  rw [hl]
  have h := areV_append hr (areV_drop (inN i) hv)
  unfold kinIn at h
  rwa [List.take_append_drop] at h
/-- And the other way: a row that does not fit. -/
theorem over_not : ∀ {n : Nat} {ks zs row : List Int}, row.length = n → n ≤ ks.length → areV ks zs = true → areV ks (row ++ zs.drop n) = areV (ks.take n) row
  | 0, ks, zs, [], _, _, h => by rw [List.nil_append, List.drop_zero, h]; rfl
  | n + 1, k :: ks, z :: zs, r :: row, h1, h2, h3 => by
    rw [areV, Bool.and_eq_true] at h3
    rw [List.cons_append, List.drop_succ_cons, List.take_succ_cons, areV, areV, over_not (by simpa using h1) (by simpa using h2) h3.2]
  | n + 1, k :: ks, [], r :: row, h1, h2, h3 => by simp [areV] at h3
  | n + 1, [], _, _, _, h2, _ => by simp at h2
theorem stp_kin {i : Nat} (hi : i < 9) {zs : List Int} {now : Int} (hv : areV (kin i) zs = true) (ht : isT now = true) : areV (kin i) (stp i zs now) = true := by
  rcases (show i = 0 ∨ i = 1 ∨ i = 2 ∨ i = 3 ∨ i = 4 ∨ i = 5 ∨ i = 6 ∨ i = 7 ∨ i = 8 by omega) with rfl | rfl | rfl | rfl | rfl | rfl | rfl | rfl | rfl
  · exact (good_ton hv ht).1
  · exact (good_tof hv ht).1
  · exact (good_tp hv ht).1
  · exact (good_ctu hv).1
  · exact (good_ctd hv).1
  · exact (good_s 5 (.inl rfl) hv).1
  · exact (good_s 6 (.inr rfl) hv).1
  · exact (edge_2 7 (.inl rfl) hv).1
  · exact (edge_2 8 (.inr rfl) hv).1
theorem nxt_kin {i : Nat} (hi : i < 9) {zs row : List Int} {t : Int} (hv : areV (kin i) zs = true) (hr : areV (kinIn i) row = true) (ht : isT t = true) : areV (kin i) (nxt i zs row t) = true :=
  stp_kin hi (over_kin hi hv hr) ht
theorem nxts_kin {i : Nat} (hi : i < 9) : ∀ {rs : List (List Int)} {zs ts : List Int}, areV (kin i) zs = true → (∀ r ∈ rs, areV (kinIn i) r = true) → rs.length ≤ ts.length → (∀ t ∈ ts, isT t = true) → areV (kin i) (nxts i zs rs ts) = true
  | [], _, _, h, _, _, _ => h
  | r :: rs, zs, [], _, _, h, _ => by simp at h
  | r :: rs, zs, t :: ts, h, h1, h2, h3 => by
    rw [nxts]
    exact nxts_kin hi (nxt_kin hi h (h1 r (by simp)) (h3 t (by simp))) (fun x hx => h1 x (by simp [hx])) (by simpa using h2) (fun x hx => h3 x (by simp at hx ⊢; exact .inr hx))
end Go.Proofs.Ytieacfenoomaeaa
