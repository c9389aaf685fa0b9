/- Plain forms of functions. -/
import Derived.Test.YtppekacobjdhnaaDoorAv16
import Derived.Test.YtppekacobjdhnaaDoorProg
import Derived.KernelRfl
namespace Go.Proofs.YtppekacobjdhnaaDoor
set_option maxRecDepth 100000
set_option maxHeartbeats 1000000
def b_ridgewaylaw02_PrefixOrder : AC :=
 (.seq
 (.reg [
 ⟨(some 3), .box 23 2 (.tmp 0), none, []⟩,
 ⟨(some 4), .box 23 2 (.tmp 1), none, []⟩,
 ⟨(some 5), .box 23 2 (.tmp 2), none, []⟩,
 ⟨(some 6), .mv (.val (.bool false)), none, []⟩])
 (.seq
 (.reg [
 ⟨(some 10), .callS 10 [], none, []⟩,
 ⟨(some 7), .mv (.tmp 10), none, []⟩])
 (.seq
 (.reg [
 ⟨(some 11), .ld (some 2) (.tmp 3), none, []⟩,
 ⟨(some 12), .ld (some 2) (.tmp 4), none, []⟩,
 ⟨(some 13), .callS 24 [(.tmp 11), (.tmp 12)], none, []⟩,
 ⟨(some 8), .mv (.tmp 13), none, []⟩])
 (.seq
 (.reg [
 ⟨(some 14), .ld (some 2) (.tmp 4), none, []⟩,
 ⟨(some 15), .ld (some 2) (.tmp 5), none, []⟩,
 ⟨(some 16), .callS 24 [(.tmp 14), (.tmp 15)], none, []⟩,
 ⟨(some 9), .mv (.tmp 16), none, []⟩])
 (.seq
 (.seq
 (.reg [
 ⟨(some 17), .mv (.tmp 8), none, []⟩,
 ⟨(some 18), .bin .lss (.tmp 17) (.val (.int .i64 (-1))), none, []⟩,
 ⟨(some 19), .mv (.tmp 18), none, []⟩,
 ⟨(some 20), .mv (.tmp 8), some (19, false), []⟩,
 ⟨(some 21), .bin .gtr (.tmp 20) (.val (.int .i64 1)), some (19, false), []⟩,
 ⟨(some 22), .pick (.tmp 19) (.val (.bool true)) (.tmp 21), none, []⟩,
 ⟨(some 23), .mv (.tmp 22), none, []⟩,
 ⟨(some 24), .ld (some 2) (.tmp 4), some (23, false), []⟩,
 ⟨(some 25), .ld (some 2) (.tmp 3), some (23, false), []⟩,
 ⟨(some 26), .callS 24 [(.tmp 24), (.tmp 25)], some (23, false), []⟩,
 ⟨(some 27), .mv (.tmp 8), some (23, false), []⟩,
 ⟨(some 28), .un .neg (.tmp 27), some (23, false), []⟩,
 ⟨(some 29), .bin .neq (.tmp 26) (.tmp 28), some (23, false), []⟩,
 ⟨(some 30), .pick (.tmp 23) (.val (.bool true)) (.tmp 29), none, []⟩,
 ⟨(some 31), .mv (.tmp 30), none, []⟩,
 ⟨(some 32), .mv (.tmp 8), some (31, false), []⟩,
 ⟨(some 33), .bin .eql (.tmp 32) (.val (.int .i64 0)), some (31, false), []⟩,
 ⟨(some 34), .ld (some 2) (.tmp 3), some (31, false), []⟩,
 ⟨(some 35), .ld (some 2) (.tmp 4), some (31, false), []⟩,
 ⟨(some 36), .eqA false 2 [(0, 0), (1, 0)] (.tmp 34) (.tmp 35), some (31, false), []⟩,
 ⟨(some 37), .eqB true (.tmp 33) (.tmp 36), some (31, false), []⟩,
 ⟨(some 38), .pick (.tmp 31) (.val (.bool true)) (.tmp 37), none, []⟩,
 ⟨(some 39), .mv (.tmp 38), none, []⟩,
 ⟨(some 40), .ld (some 2) (.tmp 3), some (39, false), []⟩,
 ⟨(some 41), .ld (some 2) (.tmp 4), some (39, false), []⟩,
 ⟨(some 42), .callS 22 [(.tmp 40), (.tmp 41)], some (39, false), []⟩,
 ⟨(some 43), .mv (.tmp 42), some (39, false), []⟩,
 ⟨(some 44), .mv (.tmp 8), some (43, true), []⟩,
 ⟨(some 45), .bin .gtr (.tmp 44) (.val (.int .i64 0)), some (43, true), []⟩,
 ⟨(some 46), .pick (.tmp 43) (.tmp 45) (.val (.bool false)), some (39, false), []⟩,
 ⟨(some 47), .pick (.tmp 39) (.val (.bool true)) (.tmp 46), none, []⟩])
 (.cond (.tmp 47)
 (.seq
 (.reg [
 ⟨(some 6), .mv (.val (.bool false)), none, []⟩])
 .ret)
 .skip))
 (.seq
 (.reg [
 ⟨(some 48), .mv (.tmp 7), none, []⟩,
 ⟨(some 49), .mv (.tmp 48), none, []⟩,
 ⟨(some 50), .mv (.tmp 8), some (49, true), []⟩,
 ⟨(some 51), .bin .gtr (.tmp 50) (.val (.int .i64 0)), some (49, true), []⟩,
 ⟨(some 52), .mv (.tmp 51), some (49, true), []⟩,
 ⟨(some 53), .mv (.tmp 9), some (52, false), []⟩,
 ⟨(some 54), .bin .gtr (.tmp 53) (.val (.int .i64 0)), some (52, false), []⟩,
 ⟨(some 55), .pick (.tmp 52) (.val (.bool true)) (.tmp 54), some (49, true), []⟩,
 ⟨(some 56), .mv (.tmp 55), some (49, true), []⟩,
 ⟨(some 57), .ld (some 2) (.tmp 3), some (56, false), []⟩,
 ⟨(some 58), .ld (some 2) (.tmp 5), some (56, false), []⟩,
 ⟨(some 59), .callS 24 [(.tmp 57), (.tmp 58)], some (56, false), []⟩,
 ⟨(some 60), .bin .leq (.tmp 59) (.val (.int .i64 0)), some (56, false), []⟩,
 ⟨(some 61), .pick (.tmp 56) (.val (.bool true)) (.tmp 60), some (49, true), []⟩,
 ⟨(some 62), .pick (.tmp 49) (.tmp 61) (.val (.bool false)), none, []⟩,
 ⟨(some 63), .mv (.tmp 62), none, []⟩,
 ⟨(some 64), .mv (.tmp 8), some (63, true), []⟩,
 ⟨(some 65), .bin .geq (.tmp 64) (.val (.int .i64 0)), some (63, true), []⟩,
 ⟨(some 66), .mv (.tmp 65), some (63, true), []⟩,
 ⟨(some 67), .mv (.tmp 9), some (66, false), []⟩,
 ⟨(some 68), .bin .gtr (.tmp 67) (.val (.int .i64 0)), some (66, false), []⟩,
 ⟨(some 69), .pick (.tmp 66) (.val (.bool true)) (.tmp 68), some (63, true), []⟩,
 ⟨(some 70), .mv (.tmp 69), some (63, true), []⟩,
 ⟨(some 71), .ld (some 2) (.tmp 3), some (70, false), []⟩,
 ⟨(some 72), .ld (some 2) (.tmp 5), some (70, false), []⟩,
 ⟨(some 73), .callS 24 [(.tmp 71), (.tmp 72)], some (70, false), []⟩,
 ⟨(some 74), .bin .lss (.tmp 73) (.val (.int .i64 0)), some (70, false), []⟩,
 ⟨(some 75), .pick (.tmp 70) (.val (.bool true)) (.tmp 74), some (63, true), []⟩,
 ⟨(some 76), .pick (.tmp 63) (.tmp 75) (.val (.bool false)), none, []⟩,
 ⟨(some 6), .mv (.tmp 76), none, []⟩])
 .ret))))))
def c_ridgewaylaw02_PrefixOrder : AF := ⟨b_ridgewaylaw02_PrefixOrder, 77, [.tmp 6]⟩
theorem p_ridgewaylaw02_PrefixOrder : prepFunc Tryd.prog 8 = some c_ridgewaylaw02_PrefixOrder ∧ hasBody Tryd.prog 8 = true := ⟨by kernel_rfl, by kernel_rfl⟩
def b_prefix_Mask : AC :=
 (.seq
 (.reg [
 ⟨(some 4), .mv (.val (.int .i64 0)), none, []⟩])
 (.seq
 (.reg [
 ⟨(some 6), .mv (.tmp 1), none, []⟩,
 ⟨(some 7), .mx (.tmp 6) (.val (.int .i64 0)), none, []⟩,
 ⟨(some 8), .mn (.tmp 7) (.val (.int .i64 32)), none, []⟩,
 ⟨(some 9), .bin .sub (.val (.int .i64 32)) (.tmp 8), none, []⟩,
 ⟨(some 5), .mv (.tmp 9), none, []⟩])
 (.seq
 (.reg [
 ⟨(some 10), .mv (.tmp 0), none, []⟩,
 ⟨(some 11), .bin .and (.tmp 10) (.val (.int .i64 4294967295)), none, []⟩,
 ⟨(some 12), .mv (.tmp 5), none, []⟩,
 ⟨(some 13), .bin .shr (.tmp 11) (.tmp 12), none, []⟩,
 ⟨(some 14), .mv (.tmp 5), none, []⟩,
 ⟨(some 15), .bin .shl (.tmp 13) (.tmp 14), none, []⟩,
 ⟨(some 4), .mv (.tmp 15), none, []⟩])
 .ret)))
def c_prefix_Mask : AF := ⟨b_prefix_Mask, 16, [.tmp 4]⟩
theorem p_prefix_Mask : prepFunc Tryd.prog 18 = some c_prefix_Mask ∧ hasBody Tryd.prog 18 = true := ⟨by kernel_rfl, by kernel_rfl⟩
def b_prefix_Sane : AC :=
 (.seq
 (.reg [
 ⟨(some 1), .box 23 2 (.tmp 0), none, []⟩,
 ⟨(some 2), .mv (.val (.bool false)), none, []⟩])
 (.seq
 (.reg [
 ⟨(some 3), .off 1 (.tmp 1), none, []⟩,
 ⟨(some 4), .ld none (.tmp 3), none, []⟩,
 ⟨(some 5), .bin .geq (.tmp 4) (.val (.int .i64 0)), none, []⟩,
 ⟨(some 6), .mv (.tmp 5), none, []⟩,
 ⟨(some 7), .off 1 (.tmp 1), some (6, true), []⟩,
 ⟨(some 8), .ld none (.tmp 7), some (6, true), []⟩,
 ⟨(some 9), .bin .leq (.tmp 8) (.val (.int .i64 32)), some (6, true), []⟩,
 ⟨(some 10), .pick (.tmp 6) (.tmp 9) (.val (.bool false)), none, []⟩,
 ⟨(some 11), .mv (.tmp 10), none, []⟩,
 ⟨(some 12), .off 0 (.tmp 1), some (11, true), []⟩,
 ⟨(some 13), .ld none (.tmp 12), some (11, true), []⟩,
 ⟨(some 14), .off 1 (.tmp 1), some (11, true), []⟩,
 ⟨(some 15), .ld none (.tmp 14), some (11, true), []⟩,
 ⟨(some 16), .call 18 [(.tmp 13), (.tmp 15)], some (11, true), []⟩,
 ⟨(some 17), .off 0 (.tmp 1), some (11, true), []⟩,
 ⟨(some 18), .ld none (.tmp 17), some (11, true), []⟩,
 ⟨(some 19), .bin .eql (.tmp 16) (.tmp 18), some (11, true), []⟩,
 ⟨(some 20), .pick (.tmp 11) (.tmp 19) (.val (.bool false)), none, []⟩,
 ⟨(some 2), .mv (.tmp 20), none, []⟩])
 .ret))
def c_prefix_Sane : AF := ⟨b_prefix_Sane, 21, [.tmp 2]⟩
theorem p_prefix_Sane : prepFunc Tryd.prog 20 = some c_prefix_Sane ∧ hasBody Tryd.prog 20 = true := ⟨by kernel_rfl, by kernel_rfl⟩
def b_prefix_Has : AC :=
 (.seq
 (.reg [
 ⟨(some 2), .box 23 2 (.tmp 0), none, []⟩,
 ⟨(some 3), .box 23 2 (.tmp 1), none, []⟩,
 ⟨(some 4), .mv (.val (.bool false)), none, []⟩])
 (.seq
 (.reg [
 ⟨(some 5), .ld (some 2) (.tmp 2), none, []⟩,
 ⟨(some 6), .call 20 [(.tmp 5)], none, []⟩,
 ⟨(some 7), .mv (.tmp 6), none, []⟩,
 ⟨(some 8), .ld (some 2) (.tmp 3), some (7, true), []⟩,
 ⟨(some 9), .call 20 [(.tmp 8)], some (7, true), []⟩,
 ⟨(some 10), .pick (.tmp 7) (.tmp 9) (.val (.bool false)), none, []⟩,
 ⟨(some 11), .mv (.tmp 10), none, []⟩,
 ⟨(some 12), .off 1 (.tmp 3), some (11, true), []⟩,
 ⟨(some 13), .ld none (.tmp 12), some (11, true), []⟩,
 ⟨(some 14), .off 1 (.tmp 2), some (11, true), []⟩,
 ⟨(some 15), .ld none (.tmp 14), some (11, true), []⟩,
 ⟨(some 16), .bin .geq (.tmp 13) (.tmp 15), some (11, true), []⟩,
 ⟨(some 17), .pick (.tmp 11) (.tmp 16) (.val (.bool false)), none, []⟩,
 ⟨(some 18), .mv (.tmp 17), none, []⟩,
 ⟨(some 19), .off 0 (.tmp 3), some (18, true), []⟩,
 ⟨(some 20), .ld none (.tmp 19), some (18, true), []⟩,
 ⟨(some 21), .off 1 (.tmp 2), some (18, true), []⟩,
 ⟨(some 22), .ld none (.tmp 21), some (18, true), []⟩,
 ⟨(some 23), .call 18 [(.tmp 20), (.tmp 22)], some (18, true), []⟩,
 ⟨(some 24), .off 0 (.tmp 2), some (18, true), []⟩,
 ⟨(some 25), .ld none (.tmp 24), some (18, true), []⟩,
 ⟨(some 26), .bin .eql (.tmp 23) (.tmp 25), some (18, true), []⟩,
 ⟨(some 27), .pick (.tmp 18) (.tmp 26) (.val (.bool false)), none, []⟩,
 ⟨(some 4), .mv (.tmp 27), none, []⟩])
 .ret))
def c_prefix_Has : AF := ⟨b_prefix_Has, 28, [.tmp 4]⟩
theorem p_prefix_Has : prepFunc Tryd.prog 22 = some c_prefix_Has ∧ hasBody Tryd.prog 22 = true := ⟨by kernel_rfl, by kernel_rfl⟩
def b_prefix_Compare : AC :=
 (.seq
 (.reg [
 ⟨(some 2), .box 23 2 (.tmp 0), none, []⟩,
 ⟨(some 3), .box 23 2 (.tmp 1), none, []⟩,
 ⟨(some 4), .mv (.val (.int .i64 0)), none, []⟩])
 (.seq
 (.reg [
 ⟨(some 5), .off 0 (.tmp 2), none, []⟩,
 ⟨(some 6), .ld none (.tmp 5), none, []⟩,
 ⟨(some 7), .off 0 (.tmp 3), none, []⟩,
 ⟨(some 8), .ld none (.tmp 7), none, []⟩,
 ⟨(some 9), .call 41 [(.tmp 6), (.tmp 8)], none, []⟩,
 ⟨(some 10), .off 1 (.tmp 2), none, []⟩,
 ⟨(some 11), .ld none (.tmp 10), none, []⟩,
 ⟨(some 12), .off 1 (.tmp 3), none, []⟩,
 ⟨(some 13), .ld none (.tmp 12), none, []⟩,
 ⟨(some 14), .callS 41 [(.tmp 11), (.tmp 13)], none, []⟩,
 ⟨(some 15), .lit 3 1 [0] [(.tmp 9), (.tmp 14)], none, []⟩,
 ⟨(some 16), .callS 40 [(.tmp 15)], none, []⟩,
 ⟨(some 4), .mv (.tmp 16), none, []⟩])
 .ret))
def c_prefix_Compare : AF := ⟨b_prefix_Compare, 17, [.tmp 4]⟩
theorem p_prefix_Compare : prepFunc Tryd.prog 24 = some c_prefix_Compare ∧ hasBody Tryd.prog 24 = true := ⟨by kernel_rfl, by kernel_rfl⟩
def b_cmp_Or_int : AC :=
 (.seq
 (.reg [
 ⟨(some 2), .mv (.val (.int .i64 0)), none, []⟩])
 (.seq
 (.reg [
 ⟨(some 3), .mv (.val (.int .i64 0)), none, []⟩])
 (.seq
 (.seq
 (.reg [
 ⟨(some 6), .mv (.tmp 0), none, []⟩,
 ⟨(some 7), .len (.tmp 6), none, []⟩,
 ⟨(some 8), .mv (.val (.int .i64 0)), none, []⟩])
 (.block 0
 (.loop
 (.seq
 (.reg [
 ⟨(some 9), .bin .lss (.tmp 8) (.tmp 7), none, []⟩])
 (.seq
 (.cond (.tmp 9)
 .skip
 (.exit 0))
 (.seq
 (.block 1
 (.seq
 (.reg [
 ⟨(some 10), .idxA 1 (.tmp 6) (.tmp 8), none, []⟩,
 ⟨(some 11), .ld none (.tmp 10), none, []⟩,
 ⟨(some 5), .mv (.tmp 11), none, []⟩])
 (.seq
 (.reg [
 ⟨(some 12), .mv (.tmp 5), none, []⟩,
 ⟨(some 13), .mv (.tmp 3), none, []⟩,
 ⟨(some 14), .bin .neq (.tmp 12) (.tmp 13), none, []⟩])
 (.cond (.tmp 14)
 (.seq
 (.reg [
 ⟨(some 15), .mv (.tmp 5), none, []⟩,
 ⟨(some 2), .mv (.tmp 15), none, []⟩])
 .ret)
 .skip))))
 (.reg [
 ⟨(some 16), .bin .add (.tmp 8) (.val (.int .i64 1)), none, []⟩,
 ⟨(some 8), .mv (.tmp 16), none, []⟩])))))))
 (.seq
 (.reg [
 ⟨(some 17), .mv (.tmp 3), none, []⟩,
 ⟨(some 2), .mv (.tmp 17), none, []⟩])
 .ret))))
def c_cmp_Or_int : AF := ⟨b_cmp_Or_int, 18, [.tmp 2]⟩
theorem p_cmp_Or_int : prepFunc Tryd.prog 40 = some c_cmp_Or_int ∧ hasBody Tryd.prog 40 = true := ⟨by kernel_rfl, by kernel_rfl⟩
def b_cmp_Compare_int : AC :=
 (.seq
 (.reg [
 ⟨(some 4), .mv (.val (.int .i64 0)), none, []⟩])
 (.seq
 (.reg [
 ⟨(some 7), .mv (.tmp 0), none, []⟩,
 ⟨(some 8), .callS 50 [(.tmp 7)], none, []⟩,
 ⟨(some 5), .mv (.tmp 8), none, []⟩])
 (.seq
 (.reg [
 ⟨(some 9), .mv (.tmp 1), none, []⟩,
 ⟨(some 10), .callS 50 [(.tmp 9)], none, []⟩,
 ⟨(some 6), .mv (.tmp 10), none, []⟩])
 (.seq
 (.seq
 (.reg [
 ⟨(some 11), .mv (.tmp 5), none, []⟩])
 (.cond (.tmp 11)
 (.seq
 (.seq
 (.reg [
 ⟨(some 12), .mv (.tmp 6), none, []⟩])
 (.cond (.tmp 12)
 (.seq
 (.reg [
 ⟨(some 4), .mv (.val (.int .i64 0)), none, []⟩])
 .ret)
 .skip))
 (.seq
 (.reg [
 ⟨(some 4), .mv (.val (.int .i64 (-1))), none, []⟩])
 .ret))
 .skip))
 (.seq
 (.seq
 (.reg [
 ⟨(some 13), .mv (.tmp 6), none, []⟩])
 (.cond (.tmp 13)
 (.seq
 (.reg [
 ⟨(some 4), .mv (.val (.int .i64 1)), none, []⟩])
 .ret)
 .skip))
 (.seq
 (.seq
 (.reg [
 ⟨(some 14), .mv (.tmp 0), none, []⟩,
 ⟨(some 15), .mv (.tmp 1), none, []⟩,
 ⟨(some 16), .bin .lss (.tmp 14) (.tmp 15), none, []⟩])
 (.cond (.tmp 16)
 (.seq
 (.reg [
 ⟨(some 4), .mv (.val (.int .i64 (-1))), none, []⟩])
 .ret)
 .skip))
 (.seq
 (.seq
 (.reg [
 ⟨(some 17), .mv (.tmp 0), none, []⟩,
 ⟨(some 18), .mv (.tmp 1), none, []⟩,
 ⟨(some 19), .bin .gtr (.tmp 17) (.tmp 18), none, []⟩])
 (.cond (.tmp 19)
 (.seq
 (.reg [
 ⟨(some 4), .mv (.val (.int .i64 1)), none, []⟩])
 .ret)
 .skip))
 (.seq
 (.reg [
 ⟨(some 4), .mv (.val (.int .i64 0)), none, []⟩])
 .ret))))))))
def c_cmp_Compare_int : AF := ⟨b_cmp_Compare_int, 20, [.tmp 4]⟩
theorem p_cmp_Compare_int : prepFunc Tryd.prog 41 = some c_cmp_Compare_int ∧ hasBody Tryd.prog 41 = true := ⟨by kernel_rfl, by kernel_rfl⟩
def b_cmp_isNaN_int : AC :=
 (.seq
 (.reg [
 ⟨(some 2), .mv (.val (.bool false)), none, []⟩])
 (.seq
 (.reg [
 ⟨(some 3), .mv (.tmp 0), none, []⟩,
 ⟨(some 4), .mv (.tmp 0), none, []⟩,
 ⟨(some 5), .bin .neq (.tmp 3) (.tmp 4), none, []⟩,
 ⟨(some 2), .mv (.tmp 5), none, []⟩])
 .ret))
def c_cmp_isNaN_int : AF := ⟨b_cmp_isNaN_int, 6, [.tmp 2]⟩
theorem p_cmp_isNaN_int : prepFunc Tryd.prog 50 = some c_cmp_isNaN_int ∧ hasBody Tryd.prog 50 = true := ⟨by kernel_rfl, by kernel_rfl⟩
def tab : Tab := [(8, c_ridgewaylaw02_PrefixOrder), (18, c_prefix_Mask), (20, c_prefix_Sane), (22, c_prefix_Has), (24, c_prefix_Compare), (40, c_cmp_Or_int), (41, c_cmp_Compare_int), (50, c_cmp_isNaN_int)]
theorem tab_ok : Tab.Ok Tryd.prog tab := ⟨p_ridgewaylaw02_PrefixOrder, p_prefix_Mask, p_prefix_Sane, p_prefix_Has, p_prefix_Compare, p_cmp_Or_int, p_cmp_Compare_int, p_cmp_isNaN_int, trivial⟩
end Go.Proofs.YtppekacobjdhnaaDoor
