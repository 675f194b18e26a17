/-
  Valid of long lists, on both sides.
  No condition but the lengths.
-/
import Derived.Test.YtbfhilbagojdnaaGreatNbF
namespace Go.Proofs.YtbfhilbagojdnaaGreat
open Go.RowKit Wr Go.Proofs.YtbfhilbagojdnaaGreat.Nm
set_option linter.unusedVariables false
set_option maxRecDepth 100000

theorem valid_big {v1 v2 : Value} {n d : List Nat} {w : World} (h1 : Sl w v1 n) (h2 : Sl w v2 d) (hl : n.length ≤ 1048576) (hl2 : d.length ≤ 1048576) (hbig : 64 < n.length ∨ 64 < d.length) : Calls Tryz.prog 62 #[.agg #[v1, v2]] w (VlP w (n, d)) := by
  obtain ⟨A, c, rfl, hc, hn, hr⟩ := h1
  obtain ⟨A2, c2, rfl, hc2, hn2, hr2⟩ := h2
  have HE := Lib.hid (show vld (n, d) = 4 by unfold vld; rw [if_pos (by show 64 < n.length ∨ 64 < d.length; exact hbig)])
  have HF := Lib.hid (fun W => fits_any A A2 n.length d.length c c2 false W (by omega) (by omega) (by symm; rw [decide_eq_false_iff_not]; omega))
  obtain ⟨ln, hln⟩ : ∃ z, z = n.length := ⟨_, rfl⟩
  obtain ⟨ld, hld⟩ : ∃ z, z = d.length := ⟨_, rfl⟩
  rw [← hln, ← hld] at HF
  rw [← hln, ← hld]
  have HX0 := Lib.hid (box0 w (.slice A ln c) (.slice A2 ld c2)); have HB0 := Lib.hid (boxb w (.slice A ln c) (.slice A2 ld c2))
  clear hc hn hr hc2 hn2 hr2 hln hld hl hl2 hbig
  go_enter Tryz.func62, Tryz.ntmps62
  go_wp2_with fail
  refine (HF.out _).mono ?_
  rintro e w1 ⟨rfl, hb1⟩
  have hbl1 := below_step HB0.out hb1
  have HB1 := Lib.hid hbl1
  clear hbl1 hb1 HF HX0 HB0
  go_wp2_with fail
  go_ret
  exact ⟨by rw [HE.out]; rfl, HB1.out⟩
theorem valid_wide {v1 v2 : Value} {n d : List Nat} {w : World} (h1 : Sl w v1 n) (h2 : Sl w v2 d) (hon : Ok n) (hod : Ok d) (hl : n.length ≤ 1048576) (hl2 : d.length ≤ 1048576) : Calls Tryz.prog 62 #[.agg #[v1, v2]] w (VlP w (n, d)) := by
  by_cases hbig : 64 < n.length ∨ 64 < d.length
  · exact valid_big h1 h2 hl hl2 hbig
  · exact valid_sl h1 h2 hon hod (by omega) (by omega)
end Go.Proofs.YtbfhilbagojdnaaGreat
