
/- The tables as the row lists them; and a world that has them. No conditions but those written. -/
import Derived.Test.YtekadjjofcicaaaDoorTnc
import Derived.Test.YtekadjjofcicaaaDoorRows
import Derived.Lib.LaidTab
import Derived.ChangeSame
import Derived.ChangeVars
import Derived.JoinedOf
import Derived.RowKit
import Derived.RowKitTokens
import Derived.LaidLaws
import Derived.LaidHandle
import Derived.Stop.Joined
import Derived.Stop.LaidErr
import Derived.Stop.LaidTwo
namespace Go.Proofs.YtekadjjofcicaaaDoor
open Go.ChangeShapes Go.WideShapes Go.RowKit Go.Stop

/-- The words, as lists of bytes. -/
def wordL : List (List UInt8) := [[], [109, 97, 112], [102, 105, 108, 116, 101, 114], [101, 120, 112, 97, 110, 100], [112, 111, 105, 115, 111, 110]]
theorem wordL_at {j : Nat} (h : j < 5) {s : ByteArray} (e : wordL[j]? = some s.data.toList) : s = wordB (j : Int) := by
  have hx : ∀ x : ByteArray, s.data.toList = x.data.toList → s = x := fun x hx => by
    apply ByteArray.ext
    exact Array.toList_inj.1 hx
  rcases (show j = 0 ∨ j = 1 ∨ j = 2 ∨ j = 3 ∨ j = 4 from by omega) with rfl | rfl | rfl | rfl | rfl
  · exact hx _ (Option.some.inj e).symm
  · exact hx _ (Option.some.inj e).symm
  · exact hx _ (Option.some.inj e).symm
  · exact hx _ (Option.some.inj e).symm
  · exact hx _ (Option.some.inj e).symm
theorem Tryd.gnW : Tryd.prog.globalNamed "loop.example/g00145/impl.stageWords" = some 0 := by kernel_rfl
theorem Tryd.gtW : (Tryd.prog.globals[0]?).map (·.type) = some 66 := by kernel_rfl
theorem Tryd.undW : Tryd.prog.underlying 66 = some (.array 5 9) := by kernel_rfl
theorem Tryd.cellW : Tryd.prog.cellsOf 66 = 5 := by kernel_rfl
theorem Tryd.cellT : Tryd.prog.cellsOf 9 = 1 := by kernel_rfl
/-- The table of words, where it stands first on the list. -/
theorem words_of_head {W : World} {rest : List (String × DataW Unit)} (h : laidMet Tryd.prog (("loop.example/g00145/impl.stageWords", Rows.laid_loop_example_g00145_impl_stageWords) :: rest) W) : Wds W := by
  obtain ⟨ps, ⟨g', t', cs, fuel, p, q, hg', ht', hvar, hd, _, _⟩, _⟩ := h
  obtain rfl := Option.some.inj (Tryd.gnW.symm.trans hg')
  obtain rfl := Option.some.inj (Tryd.gtW.symm.trans ht')
  have hcell : ∀ j : Nat, j < 5 → cs[j]? = some (Value.string (wordB (j : Int))) := by
    cases fuel with
    | zero => simp [DataW.trod] at hd
    | succ fuel =>
      simp only [DataW.trod, Tryd.undW, Tryd.cellT, Tryd.cellW, Nat.mul_one] at hd
      split at hd
      · obtain ⟨xs, hm, hx⟩ := Option.map_eq_some_iff.1 hd
        intro j hj
        obtain ⟨b, hb, hf⟩ := Lib.mapM_at hm j j (by simp [hj])
        obtain ⟨s, hc, hb1, _⟩ := DataW.trod_string Tryd.underlying9 hf
        have h1 : cs[j]? = some (.string s) := by
          have := congrArg (fun l : List Value => l[0]?) hc
          simpa [List.getElem?_take, List.getElem?_drop] using this
        rw [h1]
        have h3 : xs.map (·.1) = wordL.map fun l => (DataW.lit (.string l) : DataW Unit) := by
          have := congrArg Prod.fst hx
          simpa [Rows.laid_loop_example_g00145_impl_stageWords, wordL] using this
        have h2 : (xs.map (·.1))[j]? = some (DataW.lit (.string s.data.toList) : DataW Unit) := by rw [List.getElem?_map, hb, hb1]; rfl
        rw [h3, List.getElem?_map] at h2
        obtain ⟨l, hl, e⟩ := Option.map_eq_some_iff.1 h2
        simp only [DataW.lit.injEq, Lit.string.injEq] at e
        rw [e] at hl
        rw [wordL_at hj hl]
      · cases hd
  have hcl : ∀ j : Nat, j < 5 → W.cell? ⟨0, j, none⟩ = some (.string (wordB (j : Int))) := fun j hj => by
    have := World.var?_cell Tryd.gnW hvar j
    rw [this]; simpa using hcell j hj
  exact ⟨World.block_lt_of_cell? _ _ (hcl 0 (by omega)), hcl⟩
/-- The variables that are listed. -/
abbrev laidL : List (String × DataW Unit) := [("math/bits.deBruijn32tab", Rows.laid_math_bits_deBruijn32tab), ("math/bits.deBruijn64tab", Rows.laid_math_bits_deBruijn64tab), ("internal/strconv.uint64pow10", Rows.laid_internal_strconv_uint64pow10), ("loop.example/g00145/impl.stageWords", Rows.laid_loop_example_g00145_impl_stageWords)]
set_option maxRecDepth 100000 in
theorem pow_of_laid {W : World} (h : laidMetH Tryd.prog laidL W) : PowTab W := by
  have h0 : laidMet Tryd.prog laidL W := h
  have h2 := h0.tail.tail
  exact Lib.tabIs_of_head (rest := _) (g := 1) (t := 106) (e := 90) (n := 20) (by kernel_rfl) (by kernel_rfl) (by kernel_rfl) (by kernel_rfl) (by kernel_rfl) (by kernel_rfl) h2
theorem words_of_laid {W : World} (h : laidMetH Tryd.prog laidL W) : Wds W := by
  have h0 : laidMet Tryd.prog laidL W := h
  exact words_of_head h0.tail.tail.tail
/-- A world that has them. -/
noncomputable def laidWorld (os : Os) : World :=
  let w0 := World.holding Tryd.prog os ⟨#[], #[], []⟩
  { w0 with heap := ((((w0.heap.modify 5 fun | .cells _ t frozen => .cells #[.int .u8 0, .int .u8 1, .int .u8 28, .int .u8 2, .int .u8 29, .int .u8 14, .int .u8 24, .int .u8 3, .int .u8 30, .int .u8 22, .int .u8 20, .int .u8 15, .int .u8 25, .int .u8 17, .int .u8 4, .int .u8 8, .int .u8 31, .int .u8 27, .int .u8 13, .int .u8 23, .int .u8 21, .int .u8 19, .int .u8 16, .int .u8 7, .int .u8 26, .int .u8 12, .int .u8 18, .int .u8 6, .int .u8 11, .int .u8 5, .int .u8 10, .int .u8 9] t frozen | o => o).modify 6 fun | .cells _ t frozen => .cells #[.int .u8 0, .int .u8 1, .int .u8 56, .int .u8 2, .int .u8 57, .int .u8 49, .int .u8 28, .int .u8 3, .int .u8 61, .int .u8 58, .int .u8 42, .int .u8 50, .int .u8 38, .int .u8 29, .int .u8 17, .int .u8 4, .int .u8 62, .int .u8 47, .int .u8 59, .int .u8 36, .int .u8 45, .int .u8 43, .int .u8 51, .int .u8 22, .int .u8 53, .int .u8 39, .int .u8 33, .int .u8 30, .int .u8 24, .int .u8 18, .int .u8 12, .int .u8 5, .int .u8 63, .int .u8 55, .int .u8 48, .int .u8 27, .int .u8 60, .int .u8 41, .int .u8 37, .int .u8 16, .int .u8 46, .int .u8 35, .int .u8 44, .int .u8 21, .int .u8 52, .int .u8 32, .int .u8 23, .int .u8 11, .int .u8 54, .int .u8 26, .int .u8 40, .int .u8 15, .int .u8 34, .int .u8 20, .int .u8 31, .int .u8 10, .int .u8 25, .int .u8 14, .int .u8 19, .int .u8 9, .int .u8 13, .int .u8 8, .int .u8 7, .int .u8 6] t frozen | o => o).modify 1 fun | .cells _ t frozen => .cells #[.int .u64 1, .int .u64 10, .int .u64 100, .int .u64 1000, .int .u64 10000, .int .u64 100000, .int .u64 1000000, .int .u64 10000000, .int .u64 100000000, .int .u64 1000000000, .int .u64 10000000000, .int .u64 100000000000, .int .u64 1000000000000, .int .u64 10000000000000, .int .u64 100000000000000, .int .u64 1000000000000000, .int .u64 10000000000000000, .int .u64 100000000000000000, .int .u64 1000000000000000000, .int .u64 10000000000000000000] t frozen | o => o).modify 0 fun | .cells _ t frozen => .cells #[.string ⟨#[]⟩, .string ⟨#[109, 97, 112]⟩, .string ⟨#[102, 105, 108, 116, 101, 114]⟩, .string ⟨#[101, 120, 112, 97, 110, 100]⟩, .string ⟨#[112, 111, 105, 115, 111, 110]⟩] t frozen | o => o) }
set_option maxRecDepth 100000 in
theorem laidWorld_met (os : Os) (args : Array Value) : laidMetH Tryd.prog laidL ((laidWorld os).forCall (fun _ _ => 0) ⟨#[], args, []⟩).memory :=
  laidMet_of_run' 8 (by kernel_rfl) (by kernel_rfl)
end Go.Proofs.YtekadjjofcicaaaDoor
