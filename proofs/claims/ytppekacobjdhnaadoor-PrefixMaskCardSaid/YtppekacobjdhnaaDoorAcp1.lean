/- Plain forms of functions. -/
import Derived.Test.YtppekacobjdhnaaDoorAv16
import Derived.Test.YtppekacobjdhnaaDoorProg
import Derived.KernelRfl
namespace Go.Proofs.YtppekacobjdhnaaDoor
set_option maxRecDepth 100000
set_option maxHeartbeats 1000000
def b_ridgewaylaw02_PrefixMask : AC :=
 (.seq
 (.reg [
 ⟨(some 6), .mv (.val (.bool false)), none, []⟩])
 (.seq
 (.reg [
 ⟨(some 11), .callS 10 [], none, []⟩,
 ⟨(some 7), .mv (.tmp 11), none, []⟩])
 (.seq
 (.reg [
 ⟨(some 12), .mv (.tmp 0), none, []⟩,
 ⟨(some 13), .mv (.tmp 1), none, []⟩,
 ⟨(some 14), .callS 18 [(.tmp 12), (.tmp 13)], none, []⟩,
 ⟨(some 8), .mv (.tmp 14), none, []⟩])
 (.seq
 (.reg [
 ⟨(some 15), .mv (.tmp 8), none, []⟩,
 ⟨(some 16), .mv (.tmp 2), none, []⟩,
 ⟨(some 17), .callS 18 [(.tmp 15), (.tmp 16)], none, []⟩,
 ⟨(some 9), .mv (.tmp 17), none, []⟩])
 (.seq
 (.reg [
 ⟨(some 18), .mv (.tmp 1), none, []⟩,
 ⟨(some 19), .mn (.tmp 18) (.val (.int .i64 32)), none, []⟩,
 ⟨(some 20), .mx (.val (.int .i64 0)) (.tmp 19), none, []⟩,
 ⟨(some 10), .mv (.tmp 20), none, []⟩])
 (.seq
 (.reg [
 ⟨(some 21), .mv (.tmp 7), none, []⟩,
 ⟨(some 22), .mv (.tmp 21), none, []⟩,
 ⟨(some 23), .mv (.tmp 9), some (22, true), []⟩,
 ⟨(some 24), .mv (.tmp 0), some (22, true), []⟩,
 ⟨(some 25), .mv (.tmp 1), some (22, true), []⟩,
 ⟨(some 26), .mv (.tmp 2), some (22, true), []⟩,
 ⟨(some 27), .mn (.tmp 25) (.tmp 26), some (22, true), []⟩,
 ⟨(some 28), .callS 18 [(.tmp 24), (.tmp 27)], some (22, true), []⟩,
 ⟨(some 29), .bin .eql (.tmp 23) (.tmp 28), some (22, true), []⟩,
 ⟨(some 30), .pick (.tmp 22) (.tmp 29) (.val (.bool false)), none, []⟩,
 ⟨(some 31), .mv (.tmp 30), none, []⟩,
 ⟨(some 32), .mv (.tmp 8), some (31, true), []⟩,
 ⟨(some 33), .mv (.tmp 10), some (31, true), []⟩,
 ⟨(some 34), .bld [(.int .i64 0), (.int .i64 0)] [(0, 1, (.tmp 32)), (1, 1, (.tmp 33))], some (31, true), []⟩,
 ⟨(some 35), .callS 20 [(.tmp 34)], some (31, true), []⟩,
 ⟨(some 36), .pick (.tmp 31) (.tmp 35) (.val (.bool false)), none, []⟩,
 ⟨(some 37), .mv (.tmp 36), none, []⟩,
 ⟨(some 38), .mv (.tmp 1), some (37, true), []⟩,
 ⟨(some 39), .mv (.tmp 2), some (37, true), []⟩,
 ⟨(some 40), .bin .gtr (.tmp 38) (.tmp 39), some (37, true), []⟩,
 ⟨(some 41), .mv (.tmp 40), some (37, true), []⟩,
 ⟨(some 42), .mv (.tmp 8), some (41, false), []⟩,
 ⟨(some 43), .mv (.tmp 0), some (41, false), []⟩,
 ⟨(some 44), .mv (.tmp 2), some (41, false), []⟩,
 ⟨(some 45), .callS 18 [(.tmp 43), (.tmp 44)], some (41, false), []⟩,
 ⟨(some 46), .bin .leq (.tmp 42) (.tmp 45), some (41, false), []⟩,
 ⟨(some 47), .pick (.tmp 41) (.val (.bool true)) (.tmp 46), some (37, true), []⟩,
 ⟨(some 48), .pick (.tmp 37) (.tmp 47) (.val (.bool false)), none, []⟩,
 ⟨(some 49), .mv (.tmp 48), none, []⟩,
 ⟨(some 50), .mv (.tmp 0), some (49, true), []⟩,
 ⟨(some 51), .callS 18 [(.tmp 50), (.val (.int .i64 32))], some (49, true), []⟩,
 ⟨(some 52), .mv (.tmp 0), some (49, true), []⟩,
 ⟨(some 53), .bin .and (.tmp 52) (.val (.int .i64 4294967295)), some (49, true), []⟩,
 ⟨(some 54), .bin .eql (.tmp 51) (.tmp 53), some (49, true), []⟩,
 ⟨(some 55), .pick (.tmp 49) (.tmp 54) (.val (.bool false)), none, []⟩,
 ⟨(some 6), .mv (.tmp 55), none, []⟩])
 .ret))))))
def c_ridgewaylaw02_PrefixMask : AF := ⟨b_ridgewaylaw02_PrefixMask, 56, [.tmp 6]⟩
theorem p_ridgewaylaw02_PrefixMask : prepFunc Tryd.prog 9 = some c_ridgewaylaw02_PrefixMask ∧ hasBody Tryd.prog 9 = true := ⟨by kernel_rfl, by kernel_rfl⟩
def b_prefix_Mask : AC :=
 (.seq
 (.reg [
 ⟨(some 4), .mv (.val (.int .i64 0)), none, []⟩])
 (.seq
 (.reg [
 ⟨(some 6), .mv (.tmp 1), none, []⟩,
 ⟨(some 7), .mx (.tmp 6) (.val (.int .i64 0)), none, []⟩,
 ⟨(some 8), .mn (.tmp 7) (.val (.int .i64 32)), none, []⟩,
 ⟨(some 9), .bin .sub (.val (.int .i64 32)) (.tmp 8), none, []⟩,
 ⟨(some 5), .mv (.tmp 9), none, []⟩])
 (.seq
 (.reg [
 ⟨(some 10), .mv (.tmp 0), none, []⟩,
 ⟨(some 11), .bin .and (.tmp 10) (.val (.int .i64 4294967295)), none, []⟩,
 ⟨(some 12), .mv (.tmp 5), none, []⟩,
 ⟨(some 13), .bin .shr (.tmp 11) (.tmp 12), none, []⟩,
 ⟨(some 14), .mv (.tmp 5), none, []⟩,
 ⟨(some 15), .bin .shl (.tmp 13) (.tmp 14), none, []⟩,
 ⟨(some 4), .mv (.tmp 15), none, []⟩])
 .ret)))
def c_prefix_Mask : AF := ⟨b_prefix_Mask, 16, [.tmp 4]⟩
theorem p_prefix_Mask : prepFunc Tryd.prog 18 = some c_prefix_Mask ∧ hasBody Tryd.prog 18 = true := ⟨by kernel_rfl, by kernel_rfl⟩
def b_prefix_Sane : AC :=
 (.seq
 (.reg [
 ⟨(some 1), .box 23 2 (.tmp 0), none, []⟩,
 ⟨(some 2), .mv (.val (.bool false)), none, []⟩])
 (.seq
 (.reg [
 ⟨(some 3), .off 1 (.tmp 1), none, []⟩,
 ⟨(some 4), .ld none (.tmp 3), none, []⟩,
 ⟨(some 5), .bin .geq (.tmp 4) (.val (.int .i64 0)), none, []⟩,
 ⟨(some 6), .mv (.tmp 5), none, []⟩,
 ⟨(some 7), .off 1 (.tmp 1), some (6, true), []⟩,
 ⟨(some 8), .ld none (.tmp 7), some (6, true), []⟩,
 ⟨(some 9), .bin .leq (.tmp 8) (.val (.int .i64 32)), some (6, true), []⟩,
 ⟨(some 10), .pick (.tmp 6) (.tmp 9) (.val (.bool false)), none, []⟩,
 ⟨(some 11), .mv (.tmp 10), none, []⟩,
 ⟨(some 12), .off 0 (.tmp 1), some (11, true), []⟩,
 ⟨(some 13), .ld none (.tmp 12), some (11, true), []⟩,
 ⟨(some 14), .off 1 (.tmp 1), some (11, true), []⟩,
 ⟨(some 15), .ld none (.tmp 14), some (11, true), []⟩,
 ⟨(some 16), .call 18 [(.tmp 13), (.tmp 15)], some (11, true), []⟩,
 ⟨(some 17), .off 0 (.tmp 1), some (11, true), []⟩,
 ⟨(some 18), .ld none (.tmp 17), some (11, true), []⟩,
 ⟨(some 19), .bin .eql (.tmp 16) (.tmp 18), some (11, true), []⟩,
 ⟨(some 20), .pick (.tmp 11) (.tmp 19) (.val (.bool false)), none, []⟩,
 ⟨(some 2), .mv (.tmp 20), none, []⟩])
 .ret))
def c_prefix_Sane : AF := ⟨b_prefix_Sane, 21, [.tmp 2]⟩
theorem p_prefix_Sane : prepFunc Tryd.prog 20 = some c_prefix_Sane ∧ hasBody Tryd.prog 20 = true := ⟨by kernel_rfl, by kernel_rfl⟩
def tab : Tab := [(9, c_ridgewaylaw02_PrefixMask), (18, c_prefix_Mask), (20, c_prefix_Sane)]
theorem tab_ok : Tab.Ok Tryd.prog tab := ⟨p_ridgewaylaw02_PrefixMask, p_prefix_Mask, p_prefix_Sane, trivial⟩
end Go.Proofs.YtppekacobjdhnaaDoor
