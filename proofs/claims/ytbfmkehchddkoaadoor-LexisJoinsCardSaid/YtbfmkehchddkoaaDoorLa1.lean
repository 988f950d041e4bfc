import Derived.Test.YtbfmkehchddkoaaDoorLx13
namespace Go.Proofs.YtbfmkehchddkoaaDoor
open Go.RowKit

def src1 : ByteArray := ⟨#[120, 32, 58, 61, 32, 116, 35, 53, 59, 47, 47, 32, 102, 105, 118, 101]⟩
def src2 : ByteArray := ⟨#[120, 32, 63]⟩
theorem toks1 : toksL src1.data.toList = ([⟨1, ⟨#[120]⟩, 0⟩, ⟨4, ⟨#[58, 61]⟩, 2⟩, ⟨3, ⟨#[116, 35, 53]⟩, 5⟩, ⟨4, ⟨#[59]⟩, 8⟩, ⟨7, ⟨#[]⟩, 16⟩], 16) := by kernel_rfl
theorem toks2 : (toksL src2.data.toList).2 = 2 := by kernel_rfl

theorem tokens1 (w : World) (hA : Amb w) : Calls Tryd.prog 13 #[.string ⟨#[120, 32, 58, 61, 32, 116, 35, 53, 59, 47, 47, 32, 102, 105, 118, 101]⟩] w fun e w' =>
    ∃ g cap, e = .returned (.tuple #[.slice (some ⟨g, 0, none⟩) 5 cap, .int .i64 0, .int .i64 0]) ∧ Kp [] w w' ∧
      w'.cell? ⟨g, 6, none⟩ = some (.int .i64 3) ∧ w'.cell? ⟨g, 7, none⟩ = some (.string ⟨#[116, 35, 53]⟩) ∧ w'.cell? ⟨g, 8, none⟩ = some (.int .i64 5) ∧
      w'.cell? ⟨g, 12, none⟩ = some (.int .i64 7) ∧ w'.cell? ⟨g, 13, none⟩ = some (.string ⟨#[]⟩) ∧ w'.cell? ⟨g, 14, none⟩ = some (.int .i64 16) := by
  refine (tokens_main src1 w hA (by decide)).mono ?_
  rintro e w' ⟨hk, (⟨h1, rfl⟩ | ⟨h1, v, base, rfl, hb, hr⟩)⟩
  · rw [toks1] at h1; exact absurd h1 (by decide)
  · rw [toks1] at hr
    obtain ⟨g, cap, rfl⟩ := ownsRow_succ (k := 4) hr
    have hc := hr.cells (g := g) rfl
    exact ⟨g, cap, rfl, hk, hc 6 _ rfl, hc 7 _ rfl, hc 8 _ rfl, hc 12 _ rfl, hc 13 _ rfl, hc 14 _ rfl⟩
theorem tokens2 (w : World) (hA : Amb w) : Calls Tryd.prog 13 #[.string ⟨#[120, 32, 63]⟩] w fun e w' =>
    e = .returned (.tuple #[.slice none 0 0, .int .i64 2, .int .i64 4]) ∧ Kp [] w w' := by
  refine (tokens_main src2 w hA (by decide)).mono ?_
  rintro e w' ⟨hk, (⟨h1, rfl⟩ | ⟨h1, v, base, rfl, hb, hr⟩)⟩
  · rw [toks2]; exact ⟨rfl, hk⟩
  · rw [toks2] at h1; exact absurd (by decide) h1

theorem awake_c (w : World) (hA : Amb w) : Calls Tryd.prog 16 #[] w fun e w' => e = .returned (.bool true) ∧ Kp [] w w' := by
  go_enter Tryd.func16, Tryd.ntmps16
  go_wp2_with fail
  refine (tokens1 _ hA).mono ?_
  rintro e w1 ⟨g, cap, rfl, hk1, c6, c7, c8, c12, c13, c14⟩
  have hA1 := hA.kp0 hk1
  go_wp2_with fail
  refine (tokens2 _ hA1).mono ?_
  rintro e w2 ⟨rfl, hk2⟩
  have c6 := hk2.cell c6 (by simp)
  have c7 := hk2.cell c7 (by simp)
  have c8 := hk2.cell c8 (by simp)
  have c12 := hk2.cell c12 (by simp)
  have c13 := hk2.cell c13 (by simp)
  have c14 := hk2.cell c14 (by simp)
  go_wp2_with fail
  go_ret
  exact ⟨rfl, hk1.trans hk2⟩
end Go.Proofs.YtbfmkehchddkoaaDoor
