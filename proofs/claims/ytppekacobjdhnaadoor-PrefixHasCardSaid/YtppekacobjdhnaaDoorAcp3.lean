/- Plain forms of functions. -/
import Derived.Test.YtppekacobjdhnaaDoorAv16
import Derived.Test.YtppekacobjdhnaaDoorProg
import Derived.KernelRfl
namespace Go.Proofs.YtppekacobjdhnaaDoor
set_option maxRecDepth 100000
set_option maxHeartbeats 1000000
def b_ridgewaylaw02_PrefixHas : AC :=
 (.seq
 (.reg [
 ⟨(some 6), .box 23 2 (.tmp 0), none, []⟩,
 ⟨(some 7), .box 23 2 (.tmp 1), none, []⟩,
 ⟨(some 8), .box 23 2 (.tmp 2), none, []⟩,
 ⟨(some 12), .mv (.val (.bool false)), none, []⟩])
 (.seq
 (.reg [
 ⟨(some 16), .callS 10 [], none, []⟩,
 ⟨(some 13), .mv (.tmp 16), none, []⟩])
 (.seq
 (.seq
 (.reg [
 ⟨(some 17), .ld (some 2) (.tmp 6), none, []⟩,
 ⟨(some 18), .ld (some 2) (.tmp 6), none, []⟩,
 ⟨(some 19), .call 22 [(.tmp 17), (.tmp 18)], none, []⟩,
 ⟨(some 20), .ld (some 2) (.tmp 6), none, []⟩,
 ⟨(some 21), .call 20 [(.tmp 20)], none, []⟩,
 ⟨(some 22), .eqB true (.tmp 19) (.tmp 21), none, []⟩,
 ⟨(some 23), .mv (.tmp 22), none, []⟩,
 ⟨(some 24), .ld (some 2) (.tmp 6), some (23, false), []⟩,
 ⟨(some 25), .ld (some 2) (.tmp 7), some (23, false), []⟩,
 ⟨(some 26), .call 22 [(.tmp 24), (.tmp 25)], some (23, false), []⟩,
 ⟨(some 27), .mv (.tmp 26), some (23, false), []⟩,
 ⟨(some 28), .ld (some 2) (.tmp 7), some (27, true), []⟩,
 ⟨(some 29), .ld (some 2) (.tmp 6), some (27, true), []⟩,
 ⟨(some 30), .call 22 [(.tmp 28), (.tmp 29)], some (27, true), []⟩,
 ⟨(some 31), .pick (.tmp 27) (.tmp 30) (.val (.bool false)), some (23, false), []⟩,
 ⟨(some 32), .mv (.tmp 31), some (23, false), []⟩,
 ⟨(some 33), .ld (some 2) (.tmp 6), some (32, true), []⟩,
 ⟨(some 34), .ld (some 2) (.tmp 7), some (32, true), []⟩,
 ⟨(some 35), .eqA true 2 [(0, 0), (1, 0)] (.tmp 33) (.tmp 34), some (32, true), []⟩,
 ⟨(some 36), .pick (.tmp 32) (.tmp 35) (.val (.bool false)), some (23, false), []⟩,
 ⟨(some 37), .pick (.tmp 23) (.val (.bool true)) (.tmp 36), none, []⟩,
 ⟨(some 38), .mv (.tmp 37), none, []⟩,
 ⟨(some 39), .ld (some 2) (.tmp 6), some (38, false), []⟩,
 ⟨(some 40), .ld (some 2) (.tmp 7), some (38, false), []⟩,
 ⟨(some 41), .call 22 [(.tmp 39), (.tmp 40)], some (38, false), []⟩,
 ⟨(some 42), .mv (.tmp 41), some (38, false), []⟩,
 ⟨(some 43), .ld (some 2) (.tmp 7), some (42, true), []⟩,
 ⟨(some 44), .ld (some 2) (.tmp 8), some (42, true), []⟩,
 ⟨(some 45), .call 22 [(.tmp 43), (.tmp 44)], some (42, true), []⟩,
 ⟨(some 46), .pick (.tmp 42) (.tmp 45) (.val (.bool false)), some (38, false), []⟩,
 ⟨(some 47), .mv (.tmp 46), some (38, false), []⟩,
 ⟨(some 48), .ld (some 2) (.tmp 6), some (47, true), []⟩,
 ⟨(some 49), .ld (some 2) (.tmp 8), some (47, true), []⟩,
 ⟨(some 50), .callS 22 [(.tmp 48), (.tmp 49)], some (47, true), []⟩,
 ⟨(some 51), .un .not (.tmp 50), some (47, true), []⟩,
 ⟨(some 52), .pick (.tmp 47) (.tmp 51) (.val (.bool false)), some (38, false), []⟩,
 ⟨(some 53), .pick (.tmp 38) (.val (.bool true)) (.tmp 52), none, []⟩])
 (.cond (.tmp 53)
 (.seq
 (.reg [
 ⟨(some 12), .mv (.val (.bool false)), none, []⟩])
 .ret)
 .skip))
 (.seq
 (.reg [
 ⟨(some 54), .mv (.tmp 3), none, []⟩,
 ⟨(some 55), .mv (.tmp 4), none, []⟩,
 ⟨(some 56), .bin .and (.tmp 55) (.val (.int .i64 31)), none, []⟩,
 ⟨(some 57), .callS 18 [(.tmp 54), (.tmp 56)], none, []⟩,
 ⟨(some 58), .mv (.tmp 4), none, []⟩,
 ⟨(some 59), .bin .and (.tmp 58) (.val (.int .i64 31)), none, []⟩,
 ⟨(some 60), .bld [(.int .i64 0), (.int .i64 0)] [(0, 1, (.tmp 57)), (1, 1, (.tmp 59))], none, []⟩,
 ⟨(some 14), .box 23 2 (.val (.agg [(.int .i64 0), (.int .i64 0)])), none, []⟩,
 ⟨none, .st 2 (.tmp 14) (.tmp 60), none, []⟩])
 (.seq
 (.reg [
 ⟨(some 61), .mv (.tmp 3), none, []⟩,
 ⟨(some 62), .mv (.tmp 5), none, []⟩,
 ⟨(some 63), .bin .and (.tmp 62) (.val (.int .i64 31)), none, []⟩,
 ⟨(some 64), .callS 18 [(.tmp 61), (.tmp 63)], none, []⟩,
 ⟨(some 65), .mv (.tmp 5), none, []⟩,
 ⟨(some 66), .bin .and (.tmp 65) (.val (.int .i64 31)), none, []⟩,
 ⟨(some 67), .bld [(.int .i64 0), (.int .i64 0)] [(0, 1, (.tmp 64)), (1, 1, (.tmp 66))], none, []⟩,
 ⟨(some 15), .box 23 2 (.val (.agg [(.int .i64 0), (.int .i64 0)])), none, []⟩,
 ⟨none, .st 2 (.tmp 15) (.tmp 67), none, []⟩])
 (.seq
 (.reg [
 ⟨(some 68), .mv (.tmp 13), none, []⟩,
 ⟨(some 69), .mv (.tmp 68), none, []⟩,
 ⟨(some 70), .ld (some 2) (.tmp 14), some (69, true), []⟩,
 ⟨(some 71), .callS 20 [(.tmp 70)], some (69, true), []⟩,
 ⟨(some 72), .pick (.tmp 69) (.tmp 71) (.val (.bool false)), none, []⟩,
 ⟨(some 73), .mv (.tmp 72), none, []⟩,
 ⟨(some 74), .ld (some 2) (.tmp 15), some (73, true), []⟩,
 ⟨(some 75), .callS 20 [(.tmp 74)], some (73, true), []⟩,
 ⟨(some 76), .pick (.tmp 73) (.tmp 75) (.val (.bool false)), none, []⟩,
 ⟨(some 77), .mv (.tmp 76), none, []⟩,
 ⟨(some 78), .ld (some 2) (.tmp 14), some (77, true), []⟩,
 ⟨(some 79), .ld (some 2) (.tmp 15), some (77, true), []⟩,
 ⟨(some 80), .callS 22 [(.tmp 78), (.tmp 79)], some (77, true), []⟩,
 ⟨(some 81), .mv (.tmp 4), some (77, true), []⟩,
 ⟨(some 82), .bin .and (.tmp 81) (.val (.int .i64 31)), some (77, true), []⟩,
 ⟨(some 83), .mv (.tmp 5), some (77, true), []⟩,
 ⟨(some 84), .bin .and (.tmp 83) (.val (.int .i64 31)), some (77, true), []⟩,
 ⟨(some 85), .bin .leq (.tmp 82) (.tmp 84), some (77, true), []⟩,
 ⟨(some 86), .eqB false (.tmp 80) (.tmp 85), some (77, true), []⟩,
 ⟨(some 87), .pick (.tmp 77) (.tmp 86) (.val (.bool false)), none, []⟩,
 ⟨(some 88), .mv (.tmp 87), none, []⟩,
 ⟨(some 89), .ld (some 2) (.tmp 14), some (88, true), []⟩,
 ⟨(some 90), .mv (.tmp 3), some (88, true), []⟩,
 ⟨(some 91), .bin .and (.tmp 90) (.val (.int .i64 4294967295)), some (88, true), []⟩,
 ⟨(some 92), .bld [(.int .i64 0), (.int .i64 0)] [(0, 1, (.tmp 91)), (1, 1, (.val (.int .i64 32)))], some (88, true), []⟩,
 ⟨(some 93), .callS 22 [(.tmp 89), (.tmp 92)], some (88, true), []⟩,
 ⟨(some 94), .pick (.tmp 88) (.tmp 93) (.val (.bool false)), none, []⟩,
 ⟨(some 12), .mv (.tmp 94), none, []⟩])
 .ret))))))
def c_ridgewaylaw02_PrefixHas : AF := ⟨b_ridgewaylaw02_PrefixHas, 95, [.tmp 12]⟩
theorem p_ridgewaylaw02_PrefixHas : prepFunc Tryd.prog 7 = some c_ridgewaylaw02_PrefixHas ∧ hasBody Tryd.prog 7 = true := ⟨by kernel_rfl, by kernel_rfl⟩
def b_prefix_Mask : AC :=
 (.seq
 (.reg [
 ⟨(some 4), .mv (.val (.int .i64 0)), none, []⟩])
 (.seq
 (.reg [
 ⟨(some 6), .mv (.tmp 1), none, []⟩,
 ⟨(some 7), .mx (.tmp 6) (.val (.int .i64 0)), none, []⟩,
 ⟨(some 8), .mn (.tmp 7) (.val (.int .i64 32)), none, []⟩,
 ⟨(some 9), .bin .sub (.val (.int .i64 32)) (.tmp 8), none, []⟩,
 ⟨(some 5), .mv (.tmp 9), none, []⟩])
 (.seq
 (.reg [
 ⟨(some 10), .mv (.tmp 0), none, []⟩,
 ⟨(some 11), .bin .and (.tmp 10) (.val (.int .i64 4294967295)), none, []⟩,
 ⟨(some 12), .mv (.tmp 5), none, []⟩,
 ⟨(some 13), .bin .shr (.tmp 11) (.tmp 12), none, []⟩,
 ⟨(some 14), .mv (.tmp 5), none, []⟩,
 ⟨(some 15), .bin .shl (.tmp 13) (.tmp 14), none, []⟩,
 ⟨(some 4), .mv (.tmp 15), none, []⟩])
 .ret)))
def c_prefix_Mask : AF := ⟨b_prefix_Mask, 16, [.tmp 4]⟩
theorem p_prefix_Mask : prepFunc Tryd.prog 18 = some c_prefix_Mask ∧ hasBody Tryd.prog 18 = true := ⟨by kernel_rfl, by kernel_rfl⟩
def b_prefix_Sane : AC :=
 (.seq
 (.reg [
 ⟨(some 1), .box 23 2 (.tmp 0), none, []⟩,
 ⟨(some 2), .mv (.val (.bool false)), none, []⟩])
 (.seq
 (.reg [
 ⟨(some 3), .off 1 (.tmp 1), none, []⟩,
 ⟨(some 4), .ld none (.tmp 3), none, []⟩,
 ⟨(some 5), .bin .geq (.tmp 4) (.val (.int .i64 0)), none, []⟩,
 ⟨(some 6), .mv (.tmp 5), none, []⟩,
 ⟨(some 7), .off 1 (.tmp 1), some (6, true), []⟩,
 ⟨(some 8), .ld none (.tmp 7), some (6, true), []⟩,
 ⟨(some 9), .bin .leq (.tmp 8) (.val (.int .i64 32)), some (6, true), []⟩,
 ⟨(some 10), .pick (.tmp 6) (.tmp 9) (.val (.bool false)), none, []⟩,
 ⟨(some 11), .mv (.tmp 10), none, []⟩,
 ⟨(some 12), .off 0 (.tmp 1), some (11, true), []⟩,
 ⟨(some 13), .ld none (.tmp 12), some (11, true), []⟩,
 ⟨(some 14), .off 1 (.tmp 1), some (11, true), []⟩,
 ⟨(some 15), .ld none (.tmp 14), some (11, true), []⟩,
 ⟨(some 16), .call 18 [(.tmp 13), (.tmp 15)], some (11, true), []⟩,
 ⟨(some 17), .off 0 (.tmp 1), some (11, true), []⟩,
 ⟨(some 18), .ld none (.tmp 17), some (11, true), []⟩,
 ⟨(some 19), .bin .eql (.tmp 16) (.tmp 18), some (11, true), []⟩,
 ⟨(some 20), .pick (.tmp 11) (.tmp 19) (.val (.bool false)), none, []⟩,
 ⟨(some 2), .mv (.tmp 20), none, []⟩])
 .ret))
def c_prefix_Sane : AF := ⟨b_prefix_Sane, 21, [.tmp 2]⟩
theorem p_prefix_Sane : prepFunc Tryd.prog 20 = some c_prefix_Sane ∧ hasBody Tryd.prog 20 = true := ⟨by kernel_rfl, by kernel_rfl⟩
def b_prefix_Has : AC :=
 (.seq
 (.reg [
 ⟨(some 2), .box 23 2 (.tmp 0), none, []⟩,
 ⟨(some 3), .box 23 2 (.tmp 1), none, []⟩,
 ⟨(some 4), .mv (.val (.bool false)), none, []⟩])
 (.seq
 (.reg [
 ⟨(some 5), .ld (some 2) (.tmp 2), none, []⟩,
 ⟨(some 6), .call 20 [(.tmp 5)], none, []⟩,
 ⟨(some 7), .mv (.tmp 6), none, []⟩,
 ⟨(some 8), .ld (some 2) (.tmp 3), some (7, true), []⟩,
 ⟨(some 9), .call 20 [(.tmp 8)], some (7, true), []⟩,
 ⟨(some 10), .pick (.tmp 7) (.tmp 9) (.val (.bool false)), none, []⟩,
 ⟨(some 11), .mv (.tmp 10), none, []⟩,
 ⟨(some 12), .off 1 (.tmp 3), some (11, true), []⟩,
 ⟨(some 13), .ld none (.tmp 12), some (11, true), []⟩,
 ⟨(some 14), .off 1 (.tmp 2), some (11, true), []⟩,
 ⟨(some 15), .ld none (.tmp 14), some (11, true), []⟩,
 ⟨(some 16), .bin .geq (.tmp 13) (.tmp 15), some (11, true), []⟩,
 ⟨(some 17), .pick (.tmp 11) (.tmp 16) (.val (.bool false)), none, []⟩,
 ⟨(some 18), .mv (.tmp 17), none, []⟩,
 ⟨(some 19), .off 0 (.tmp 3), some (18, true), []⟩,
 ⟨(some 20), .ld none (.tmp 19), some (18, true), []⟩,
 ⟨(some 21), .off 1 (.tmp 2), some (18, true), []⟩,
 ⟨(some 22), .ld none (.tmp 21), some (18, true), []⟩,
 ⟨(some 23), .call 18 [(.tmp 20), (.tmp 22)], some (18, true), []⟩,
 ⟨(some 24), .off 0 (.tmp 2), some (18, true), []⟩,
 ⟨(some 25), .ld none (.tmp 24), some (18, true), []⟩,
 ⟨(some 26), .bin .eql (.tmp 23) (.tmp 25), some (18, true), []⟩,
 ⟨(some 27), .pick (.tmp 18) (.tmp 26) (.val (.bool false)), none, []⟩,
 ⟨(some 4), .mv (.tmp 27), none, []⟩])
 .ret))
def c_prefix_Has : AF := ⟨b_prefix_Has, 28, [.tmp 4]⟩
theorem p_prefix_Has : prepFunc Tryd.prog 22 = some c_prefix_Has ∧ hasBody Tryd.prog 22 = true := ⟨by kernel_rfl, by kernel_rfl⟩
def tab : Tab := [(7, c_ridgewaylaw02_PrefixHas), (18, c_prefix_Mask), (20, c_prefix_Sane), (22, c_prefix_Has)]
theorem tab_ok : Tab.Ok Tryd.prog tab := ⟨p_ridgewaylaw02_PrefixHas, p_prefix_Mask, p_prefix_Sane, p_prefix_Has, trivial⟩
end Go.Proofs.YtppekacobjdhnaaDoor
