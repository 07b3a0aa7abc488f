/-
  The tables of registers out of what a row lists; no condition but those in each head.
-/
import Derived.Test.YtinjpobepcenfaaDoorWalkRegN
namespace Go.Proofs.YtinjpobepcenfaaDoor
open Go.RowKit
theorem met_byteNames {W : World} {q : List (String × DataW Unit)} (hq : (q.filter fun x => x.1 == "loop.example/g00664/impl.byteNames") = [("loop.example/g00664/impl.byteNames", Rows.laid_loop_example_g00664_impl_byteNames)]) (h : laidMetH Tryd.prog q W) : Nms W 1 regs1 := by
  have h1 := h.filter (fun x => x.1 == "loop.example/g00664/impl.byteNames")
  rw [hq] at h1
  exact regs1Met rfl h1
theorem met_wordNames {W : World} {q : List (String × DataW Unit)} (hq : (q.filter fun x => x.1 == "loop.example/g00664/impl.wordNames") = [("loop.example/g00664/impl.wordNames", Rows.laid_loop_example_g00664_impl_wordNames)]) (h : laidMetH Tryd.prog q W) : Nms W 2 regs2 := by
  have h1 := h.filter (fun x => x.1 == "loop.example/g00664/impl.wordNames")
  rw [hq] at h1
  exact regs2Met rfl h1
theorem met_dwordNames {W : World} {q : List (String × DataW Unit)} (hq : (q.filter fun x => x.1 == "loop.example/g00664/impl.dwordNames") = [("loop.example/g00664/impl.dwordNames", Rows.laid_loop_example_g00664_impl_dwordNames)]) (h : laidMetH Tryd.prog q W) : Nms W 3 regs4 := by
  have h1 := h.filter (fun x => x.1 == "loop.example/g00664/impl.dwordNames")
  rw [hq] at h1
  exact regs4Met rfl h1
theorem met_qwordNames {W : World} {q : List (String × DataW Unit)} (hq : (q.filter fun x => x.1 == "loop.example/g00664/impl.qwordNames") = [("loop.example/g00664/impl.qwordNames", Rows.laid_loop_example_g00664_impl_qwordNames)]) (h : laidMetH Tryd.prog q W) : Nms W 4 regs8 := by
  have h1 := h.filter (fun x => x.1 == "loop.example/g00664/impl.qwordNames")
  rw [hq] at h1
  exact regs8Met rfl h1
theorem met_condNames {W : World} {q : List (String × DataW Unit)} (hq : (q.filter fun x => x.1 == "loop.example/g00664/impl.condNames") = [("loop.example/g00664/impl.condNames", Rows.laid_loop_example_g00664_impl_condNames)]) (h : laidMetH Tryd.prog q W) : Nms W 5 condsL := by
  have h1 := h.filter (fun x => x.1 == "loop.example/g00664/impl.condNames")
  rw [hq] at h1
  exact condsMet rfl h1
end Go.Proofs.YtinjpobepcenfaaDoor
