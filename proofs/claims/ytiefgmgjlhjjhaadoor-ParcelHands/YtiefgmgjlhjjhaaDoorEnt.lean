import Derived.Test.YtiefgmgjlhjjhaaDoorLexG
set_option linter.unusedVariables false
set_option linter.unusedSimpArgs false
namespace Go.Proofs.YtiefgmgjlhjjhaaDoor
open Go.RowKit
theorem enter7 (args : Array Value) (W : World) : (callFunc 7 args).run Tryd.prog W = .ok (.enter 7 args) W := run_enter Tryd.func7 (by kernel_rfl) (by kernel_rfl) args W
theorem enter8 (args : Array Value) (W : World) : (callFunc 8 args).run Tryd.prog W = .ok (.enter 8 args) W := run_enter Tryd.func8 (by kernel_rfl) (by kernel_rfl) args W
theorem enter9 (args : Array Value) (W : World) : (callFunc 9 args).run Tryd.prog W = .ok (.enter 9 args) W := run_enter Tryd.func9 (by kernel_rfl) (by kernel_rfl) args W
theorem enter10 (args : Array Value) (W : World) : (callFunc 10 args).run Tryd.prog W = .ok (.enter 10 args) W := run_enter Tryd.func10 (by kernel_rfl) (by kernel_rfl) args W
theorem enter11 (args : Array Value) (W : World) : (callFunc 11 args).run Tryd.prog W = .ok (.enter 11 args) W := run_enter Tryd.func11 (by kernel_rfl) (by kernel_rfl) args W
theorem enter12 (args : Array Value) (W : World) : (callFunc 12 args).run Tryd.prog W = .ok (.enter 12 args) W := run_enter Tryd.func12 (by kernel_rfl) (by kernel_rfl) args W
theorem enter15 (args : Array Value) (W : World) : (callFunc 15 args).run Tryd.prog W = .ok (.enter 15 args) W := run_enter Tryd.func15 (by kernel_rfl) (by kernel_rfl) args W
theorem enter19 (args : Array Value) (W : World) : (callFunc 19 args).run Tryd.prog W = .ok (.enter 19 args) W := run_enter Tryd.func19 (by kernel_rfl) (by kernel_rfl) args W
theorem enter20 (args : Array Value) (W : World) : (callFunc 20 args).run Tryd.prog W = .ok (.enter 20 args) W := run_enter Tryd.func20 (by kernel_rfl) (by kernel_rfl) args W
theorem enter21 (args : Array Value) (W : World) : (callFunc 21 args).run Tryd.prog W = .ok (.enter 21 args) W := run_enter Tryd.func21 (by kernel_rfl) (by kernel_rfl) args W
theorem enter22 (args : Array Value) (W : World) : (callFunc 22 args).run Tryd.prog W = .ok (.enter 22 args) W := run_enter Tryd.func22 (by kernel_rfl) (by kernel_rfl) args W
theorem enter23 (args : Array Value) (W : World) : (callFunc 23 args).run Tryd.prog W = .ok (.enter 23 args) W := run_enter Tryd.func23 (by kernel_rfl) (by kernel_rfl) args W
theorem enter24 (args : Array Value) (W : World) : (callFunc 24 args).run Tryd.prog W = .ok (.enter 24 args) W := run_enter Tryd.func24 (by kernel_rfl) (by kernel_rfl) args W
theorem enter25 (args : Array Value) (W : World) : (callFunc 25 args).run Tryd.prog W = .ok (.enter 25 args) W := run_enter Tryd.func25 (by kernel_rfl) (by kernel_rfl) args W
theorem enter26 (args : Array Value) (W : World) : (callFunc 26 args).run Tryd.prog W = .ok (.enter 26 args) W := run_enter Tryd.func26 (by kernel_rfl) (by kernel_rfl) args W
theorem enter27 (args : Array Value) (W : World) : (callFunc 27 args).run Tryd.prog W = .ok (.enter 27 args) W := run_enter Tryd.func27 (by kernel_rfl) (by kernel_rfl) args W
theorem enter28 (args : Array Value) (W : World) : (callFunc 28 args).run Tryd.prog W = .ok (.enter 28 args) W := run_enter Tryd.func28 (by kernel_rfl) (by kernel_rfl) args W
theorem enter29 (args : Array Value) (W : World) : (callFunc 29 args).run Tryd.prog W = .ok (.enter 29 args) W := run_enter Tryd.func29 (by kernel_rfl) (by kernel_rfl) args W
theorem enter30 (args : Array Value) (W : World) : (callFunc 30 args).run Tryd.prog W = .ok (.enter 30 args) W := run_enter Tryd.func30 (by kernel_rfl) (by kernel_rfl) args W
theorem enter36 (args : Array Value) (W : World) : (callFunc 36 args).run Tryd.prog W = .ok (.enter 36 args) W := run_enter Tryd.func36 (by kernel_rfl) (by kernel_rfl) args W
theorem enter37 (args : Array Value) (W : World) : (callFunc 37 args).run Tryd.prog W = .ok (.enter 37 args) W := run_enter Tryd.func37 (by kernel_rfl) (by kernel_rfl) args W
theorem enter38 (args : Array Value) (W : World) : (callFunc 38 args).run Tryd.prog W = .ok (.enter 38 args) W := run_enter Tryd.func38 (by kernel_rfl) (by kernel_rfl) args W
theorem enter39 (args : Array Value) (W : World) : (callFunc 39 args).run Tryd.prog W = .ok (.enter 39 args) W := run_enter Tryd.func39 (by kernel_rfl) (by kernel_rfl) args W
theorem enter40 (args : Array Value) (W : World) : (callFunc 40 args).run Tryd.prog W = .ok (.enter 40 args) W := run_enter Tryd.func40 (by kernel_rfl) (by kernel_rfl) args W
theorem enter41 (args : Array Value) (W : World) : (callFunc 41 args).run Tryd.prog W = .ok (.enter 41 args) W := run_enter Tryd.func41 (by kernel_rfl) (by kernel_rfl) args W
theorem enter42 (args : Array Value) (W : World) : (callFunc 42 args).run Tryd.prog W = .ok (.enter 42 args) W := run_enter Tryd.func42 (by kernel_rfl) (by kernel_rfl) args W
theorem enter43 (args : Array Value) (W : World) : (callFunc 43 args).run Tryd.prog W = .ok (.enter 43 args) W := run_enter Tryd.func43 (by kernel_rfl) (by kernel_rfl) args W
theorem enter44 (args : Array Value) (W : World) : (callFunc 44 args).run Tryd.prog W = .ok (.enter 44 args) W := run_enter Tryd.func44 (by kernel_rfl) (by kernel_rfl) args W
theorem enter45 (args : Array Value) (W : World) : (callFunc 45 args).run Tryd.prog W = .ok (.enter 45 args) W := run_enter Tryd.func45 (by kernel_rfl) (by kernel_rfl) args W
theorem enter46 (args : Array Value) (W : World) : (callFunc 46 args).run Tryd.prog W = .ok (.enter 46 args) W := run_enter Tryd.func46 (by kernel_rfl) (by kernel_rfl) args W
theorem enter47 (args : Array Value) (W : World) : (callFunc 47 args).run Tryd.prog W = .ok (.enter 47 args) W := run_enter Tryd.func47 (by kernel_rfl) (by kernel_rfl) args W
theorem enter48 (args : Array Value) (W : World) : (callFunc 48 args).run Tryd.prog W = .ok (.enter 48 args) W := run_enter Tryd.func48 (by kernel_rfl) (by kernel_rfl) args W
theorem enter61 (args : Array Value) (W : World) : (callFunc 61 args).run Tryd.prog W = .ok (.enter 61 args) W := run_enter Tryd.func61 (by kernel_rfl) (by kernel_rfl) args W
theorem enter62 (args : Array Value) (W : World) : (callFunc 62 args).run Tryd.prog W = .ok (.enter 62 args) W := run_enter Tryd.func62 (by kernel_rfl) (by kernel_rfl) args W
end Go.Proofs.YtiefgmgjlhjjhaaDoor
