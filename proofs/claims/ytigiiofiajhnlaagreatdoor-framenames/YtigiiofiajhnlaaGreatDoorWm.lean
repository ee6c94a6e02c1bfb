/-
  What a row's list gives where the calls reach package bytes: the tables of UTF-8, the longest that the library's search takes; the step to the given statement with the world's shape kept.
-/
import Derived.Test.YtigiiofiajhnlaaGreatDoorHb
import Derived.Test.YtigiiofiajhnlaaGreatDoorWl
import Derived.Lib.LaidU8T
import Derived.Lay
import Derived.LaidOnce
import Derived.Shelf.Vars
import GoSem.PinnedTables
namespace Go.Proofs.YtigiiofiajhnlaaGreatDoor.Wm
set_option linter.unusedVariables false
open Go.RowKit Go.ChangeShapes Go.WideShapes

def u8ren : Go.Shelf.Ren := ⟨fun | n => n, fun | 5 => 5 | 119 => 123 | 138 => 125 | 139 => 126 | n => n, fun | 3 => 5 | 4 => 6 | n => n⟩
theorem types : U8Types Tryz.prog u8ren := ⟨Tryz.underlying5, Tryz.underlying123, Tryz.underlying125, Tryz.underlying126⟩
theorem extra : U8Extra Tryz.prog u8ren := ⟨by kernel_rfl, by kernel_rfl, by kernel_rfl, by kernel_rfl, by kernel_rfl, by kernel_rfl, by kernel_rfl⟩
theorem env_of {l : List (String × DataW Unit)} {W : World} (h : laidMet Tryz.prog l W) (h1 : ("unicode/utf8.first", Lib.firstData) ∈ l) (h2 : ("unicode/utf8.acceptRanges", Lib.acceptData) ∈ l) (hs : W.ShapedOpen Tryz.prog) : Hb.Env W :=
  ⟨cell_of_shapedOpen_int hs (g := 0) (zero := #[.int .i64 0]) (t := 3) (of_decide_eq_true (by kernel_rfl)) (by kernel_rfl) rfl (by kernel_rfl) (by kernel_rfl) Tryz.underlying3, utf8Tabs_of_readsT types extra (Lib.laidMet.reads h h1) (Lib.laidMet.reads h h2)⟩

/-- from a walk at each world of the row, its shape and its list known, to what the row says -/
theorem returns_shaped {H : Type} {enc : TypeId × Value → H} {a : Assume} {C : Checked} {os : Os} {f : FuncId} {fn : Func} {s : ChangeSpec} {conds : List PathCond} {apart fresh handsOn again : Bool} {X : World → Array Value → Prop}
    (hX : ∀ (w w' : World) (args : Array Value), w.heap = w'.heap → X w args → X w' args)
    (own : ownKnob C.prog.godebug = none) (started : os.Started) (noInit : C.prog.inits.idxOf? f = none) (hfn : C.prog.funcs[f]? = some fn)
    (witness : ∃ (w : World) (tape : Tape) (i : Input), w.os = os ∧ (w.forCall tape i).Shaped C.prog ∧ i.vars = [] ∧ Input.okWide C.prog (w.forCall tape i) .any w.heap.size f i ∧
      ((s.pre enc C.prog fn conds apart (w.forCall tape i).memory i.args ∧ X (w.forCall tape i).memory i.args) ∧ sizedMet enc C.prog fn (OpenSpec.ofChange s) apart (w.forCall tape i).memory i.args) ∧ a.holds C.prog (lone (Frame.enter C.prog f i.args .normal) [] (w.forCall tape i)))
    (contract : ∀ (W : World) (base : Nat) (args : Array Value) (ds gs : List (DataW H)) (before : List MemPlace),
      (∀ (j : Nat) t v, fn.params[j]? = some t → args[j]? = some v → Value.okWide C.prog W .any base t v) →
      DataW.Whole enc C.prog fn.params.toList s.vars apart W args.toList ds gs before →
      (DataW.weightsEach C.prog (fn.params.toList ++ s.plain.varTypes C.prog) (ds ++ gs)).all (· ≤ reachBytes) = true → X W args → W.ShapedOpen C.prog →
      Calls C.prog f args W fun e W' => ∃ v, e = .returned v ∧ s.post enc C.prog fn apart fresh handsOn again W args v W') :
    ReturnsInHanded a C os f .any (fun w args => (s.pre enc C.prog fn conds apart w args ∧ X w args) ∧ sizedMet enc C.prog fn (OpenSpec.ofChange s) apart w args) (s.post enc C.prog fn apart fresh handsOn again) := by
  refine returnsInHanded_of_calls own started noInit witness fun w tape i _ shape _ ok pre _ => ?_
  obtain ⟨⟨⟨ds, gs, before, whole, _⟩, x⟩, sized⟩ := pre
  obtain ⟨_, _, _, fn', hfn', _, _, _, _, vals⟩ := ok
  obtain rfl : fn' = fn := Option.some.inj (hfn'.symm.trans hfn)
  refine (contract (w.forCall tape i) w.heap.size i.args ds gs before vals (DataW.Whole.of_heap (w' := w.forCall tape i) (by rfl) whole) (sized.weights whole) (hX _ _ _ (by rfl) x) shape).mono fun e W' ⟨v, he, hp⟩ => ?_
  rw [he]
  exact ChangeSpec.post_blind hp
end Go.Proofs.YtigiiofiajhnlaaGreatDoor.Wm
