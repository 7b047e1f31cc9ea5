import Derived.Test.YtplfelfmkgjijaaLex
set_option linter.unusedVariables false
set_option linter.unusedSimpArgs false
namespace Go.Proofs.Ytplfelfmkgjijaa
open Go.RowKit
theorem enter7 (args : Array Value) (W : World) : (callFunc 7 args).run Try.prog W = .ok (.enter 7 args) W := run_enter Try.func7 (by kernel_rfl) (by kernel_rfl) args W
theorem enter8 (args : Array Value) (W : World) : (callFunc 8 args).run Try.prog W = .ok (.enter 8 args) W := run_enter Try.func8 (by kernel_rfl) (by kernel_rfl) args W
theorem enter9 (args : Array Value) (W : World) : (callFunc 9 args).run Try.prog W = .ok (.enter 9 args) W := run_enter Try.func9 (by kernel_rfl) (by kernel_rfl) args W
theorem enter10 (args : Array Value) (W : World) : (callFunc 10 args).run Try.prog W = .ok (.enter 10 args) W := run_enter Try.func10 (by kernel_rfl) (by kernel_rfl) args W
theorem enter11 (args : Array Value) (W : World) : (callFunc 11 args).run Try.prog W = .ok (.enter 11 args) W := run_enter Try.func11 (by kernel_rfl) (by kernel_rfl) args W
theorem enter12 (args : Array Value) (W : World) : (callFunc 12 args).run Try.prog W = .ok (.enter 12 args) W := run_enter Try.func12 (by kernel_rfl) (by kernel_rfl) args W
theorem enter13 (args : Array Value) (W : World) : (callFunc 13 args).run Try.prog W = .ok (.enter 13 args) W := run_enter Try.func13 (by kernel_rfl) (by kernel_rfl) args W
theorem enter14 (args : Array Value) (W : World) : (callFunc 14 args).run Try.prog W = .ok (.enter 14 args) W := run_enter Try.func14 (by kernel_rfl) (by kernel_rfl) args W
theorem enter15 (args : Array Value) (W : World) : (callFunc 15 args).run Try.prog W = .ok (.enter 15 args) W := run_enter Try.func15 (by kernel_rfl) (by kernel_rfl) args W
theorem enter16 (args : Array Value) (W : World) : (callFunc 16 args).run Try.prog W = .ok (.enter 16 args) W := run_enter Try.func16 (by kernel_rfl) (by kernel_rfl) args W
theorem enter17 (args : Array Value) (W : World) : (callFunc 17 args).run Try.prog W = .ok (.enter 17 args) W := run_enter Try.func17 (by kernel_rfl) (by kernel_rfl) args W
theorem enter18 (args : Array Value) (W : World) : (callFunc 18 args).run Try.prog W = .ok (.enter 18 args) W := run_enter Try.func18 (by kernel_rfl) (by kernel_rfl) args W
theorem enter19 (args : Array Value) (W : World) : (callFunc 19 args).run Try.prog W = .ok (.enter 19 args) W := run_enter Try.func19 (by kernel_rfl) (by kernel_rfl) args W
theorem enter20 (args : Array Value) (W : World) : (callFunc 20 args).run Try.prog W = .ok (.enter 20 args) W := run_enter Try.func20 (by kernel_rfl) (by kernel_rfl) args W
theorem enter21 (args : Array Value) (W : World) : (callFunc 21 args).run Try.prog W = .ok (.enter 21 args) W := run_enter Try.func21 (by kernel_rfl) (by kernel_rfl) args W
theorem enter22 (args : Array Value) (W : World) : (callFunc 22 args).run Try.prog W = .ok (.enter 22 args) W := run_enter Try.func22 (by kernel_rfl) (by kernel_rfl) args W
theorem enter23 (args : Array Value) (W : World) : (callFunc 23 args).run Try.prog W = .ok (.enter 23 args) W := run_enter Try.func23 (by kernel_rfl) (by kernel_rfl) args W
theorem enter24 (args : Array Value) (W : World) : (callFunc 24 args).run Try.prog W = .ok (.enter 24 args) W := run_enter Try.func24 (by kernel_rfl) (by kernel_rfl) args W
theorem enter25 (args : Array Value) (W : World) : (callFunc 25 args).run Try.prog W = .ok (.enter 25 args) W := run_enter Try.func25 (by kernel_rfl) (by kernel_rfl) args W
theorem enter26 (args : Array Value) (W : World) : (callFunc 26 args).run Try.prog W = .ok (.enter 26 args) W := run_enter Try.func26 (by kernel_rfl) (by kernel_rfl) args W
theorem enter27 (args : Array Value) (W : World) : (callFunc 27 args).run Try.prog W = .ok (.enter 27 args) W := run_enter Try.func27 (by kernel_rfl) (by kernel_rfl) args W
theorem enter28 (args : Array Value) (W : World) : (callFunc 28 args).run Try.prog W = .ok (.enter 28 args) W := run_enter Try.func28 (by kernel_rfl) (by kernel_rfl) args W
theorem enter29 (args : Array Value) (W : World) : (callFunc 29 args).run Try.prog W = .ok (.enter 29 args) W := run_enter Try.func29 (by kernel_rfl) (by kernel_rfl) args W
theorem enter30 (args : Array Value) (W : World) : (callFunc 30 args).run Try.prog W = .ok (.enter 30 args) W := run_enter Try.func30 (by kernel_rfl) (by kernel_rfl) args W
theorem enter31 (args : Array Value) (W : World) : (callFunc 31 args).run Try.prog W = .ok (.enter 31 args) W := run_enter Try.func31 (by kernel_rfl) (by kernel_rfl) args W
theorem enter32 (args : Array Value) (W : World) : (callFunc 32 args).run Try.prog W = .ok (.enter 32 args) W := run_enter Try.func32 (by kernel_rfl) (by kernel_rfl) args W
theorem enter33 (args : Array Value) (W : World) : (callFunc 33 args).run Try.prog W = .ok (.enter 33 args) W := run_enter Try.func33 (by kernel_rfl) (by kernel_rfl) args W
theorem enter34 (args : Array Value) (W : World) : (callFunc 34 args).run Try.prog W = .ok (.enter 34 args) W := run_enter Try.func34 (by kernel_rfl) (by kernel_rfl) args W
theorem enter35 (args : Array Value) (W : World) : (callFunc 35 args).run Try.prog W = .ok (.enter 35 args) W := run_enter Try.func35 (by kernel_rfl) (by kernel_rfl) args W
theorem enter36 (args : Array Value) (W : World) : (callFunc 36 args).run Try.prog W = .ok (.enter 36 args) W := run_enter Try.func36 (by kernel_rfl) (by kernel_rfl) args W
theorem enter37 (args : Array Value) (W : World) : (callFunc 37 args).run Try.prog W = .ok (.enter 37 args) W := run_enter Try.func37 (by kernel_rfl) (by kernel_rfl) args W
theorem enter48 (args : Array Value) (W : World) : (callFunc 48 args).run Try.prog W = .ok (.enter 48 args) W := run_enter Try.func48 (by kernel_rfl) (by kernel_rfl) args W
end Go.Proofs.Ytplfelfmkgjijaa
