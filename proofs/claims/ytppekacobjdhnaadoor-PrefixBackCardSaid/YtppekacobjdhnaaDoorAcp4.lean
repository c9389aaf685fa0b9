/- Plain forms of functions. -/
import Derived.Test.YtppekacobjdhnaaDoorAv16
import Derived.Test.YtppekacobjdhnaaDoorProg
import Derived.KernelRfl
namespace Go.Proofs.YtppekacobjdhnaaDoor
set_option maxRecDepth 100000
set_option maxHeartbeats 1000000
def b_ridgewaylaw02_PrefixBack : AC :=
 (.seq
 (.reg [
 ⟨(some 4), .mv (.val (.bool false)), none, []⟩])
 (.seq
 (.reg [
 ⟨(some 16), .callS 10 [], none, []⟩,
 ⟨(some 5), .mv (.tmp 16), none, []⟩])
 (.seq
 (.seq
 (.reg [
 ⟨(some 17), .mv (.tmp 0), none, []⟩,
 ⟨(some 18), .len (.tmp 17), none, []⟩,
 ⟨(some 19), .bin .gtr (.tmp 18) (.val (.int .i64 60)), none, []⟩,
 ⟨(some 20), .mv (.tmp 19), none, []⟩,
 ⟨(some 21), .mv (.tmp 1), some (20, false), []⟩,
 ⟨(some 22), .len (.tmp 21), some (20, false), []⟩,
 ⟨(some 23), .bin .gtr (.tmp 22) (.val (.int .i64 200)), some (20, false), []⟩,
 ⟨(some 24), .pick (.tmp 20) (.val (.bool true)) (.tmp 23), none, []⟩])
 (.cond (.tmp 24)
 (.seq
 (.reg [
 ⟨(some 25), .mv (.tmp 5), none, []⟩,
 ⟨(some 4), .mv (.tmp 25), none, []⟩])
 .ret)
 .skip))
 (.seq
 (.reg [
 ⟨(some 6), .mv (.val (.slice .full 0 [])), none, []⟩])
 (.seq
 (.reg [
 ⟨(some 7), .mv (.val (.slice .full 0 [])), none, []⟩])
 (.seq
 (.seq
 (.reg [
 ⟨(some 8), .mv (.val (.int .i64 0)), none, []⟩])
 (.block 0
 (.loop
 (.seq
 (.seq
 (.reg [
 ⟨(some 26), .mv (.tmp 8), none, []⟩,
 ⟨(some 27), .mv (.tmp 0), none, []⟩,
 ⟨(some 28), .len (.tmp 27), none, []⟩,
 ⟨(some 29), .bin .lss (.tmp 26) (.tmp 28), none, []⟩])
 (.cond (.tmp 29)
 .skip
 (.exit 0)))
 (.seq
 (.block 1
 (.seq
 (.reg [
 ⟨(some 32), .mv (.tmp 6), none, []⟩,
 ⟨(some 33), .mv (.tmp 0), none, []⟩,
 ⟨(some 34), .mv (.tmp 8), none, []⟩,
 ⟨(some 35), .idxA 2 (.tmp 33) (.tmp 34), none, []⟩,
 ⟨(some 36), .ld (some 2) (.tmp 35), none, []⟩,
 ⟨(some 37), .callS 26 [(.tmp 32), (.tmp 36)], none, []⟩,
 ⟨(some 9), .mv (.tmp 37), none, []⟩])
 (.seq
 (.seq
 (.reg [
 ⟨(some 38), .mv (.tmp 0), none, []⟩,
 ⟨(some 39), .mv (.tmp 8), none, []⟩,
 ⟨(some 40), .idxA 2 (.tmp 38) (.tmp 39), none, []⟩,
 ⟨(some 41), .ld (some 2) (.tmp 40), none, []⟩,
 ⟨(some 42), .callS 20 [(.tmp 41)], none, []⟩,
 ⟨(some 43), .un .not (.tmp 42), none, []⟩])
 (.cond (.tmp 43)
 (.seq
 (.seq
 (.reg [
 ⟨(some 44), .mv (.tmp 9), none, []⟩,
 ⟨(some 45), .b2s (.tmp 44), none, []⟩,
 ⟨(some 46), .mv (.tmp 6), none, []⟩,
 ⟨(some 47), .b2s (.tmp 46), none, []⟩,
 ⟨(some 48), .bin .neq (.tmp 45) (.tmp 47), none, []⟩])
 (.cond (.tmp 48)
 (.seq
 (.reg [
 ⟨(some 4), .mv (.val (.bool false)), none, []⟩])
 .ret)
 .skip))
 (.exit 1))
 .skip))
 (.seq
 (.reg [
 ⟨(some 49), .lit 5 1 [0] [], none, []⟩,
 ⟨(some 50), .mv (.tmp 0), none, []⟩,
 ⟨(some 51), .mv (.tmp 8), none, []⟩,
 ⟨(some 52), .idxA 2 (.tmp 50) (.tmp 51), none, []⟩,
 ⟨(some 53), .ld (some 2) (.tmp 52), none, []⟩,
 ⟨(some 54), .callS 26 [(.val (.slice .full 0 [])), (.tmp 53)], none, []⟩,
 ⟨(some 55), .app 5 1 1 (.tmp 49) (.tmp 54), none, []⟩,
 ⟨(some 10), .mv (.tmp 55), none, []⟩])
 (.seq
 (.reg [
 ⟨(some 56), .mv (.tmp 10), none, []⟩,
 ⟨(some 57), .mv (.tmp 1), none, []⟩,
 ⟨(some 58), .app 5 1 1 (.tmp 56) (.tmp 57), none, []⟩,
 ⟨(some 10), .mv (.tmp 58), none, []⟩])
 (.seq
 (.reg [
 ⟨(some 60), .mv (.tmp 10), none, []⟩,
 ⟨(some 61), .callS 11 [(.tmp 60)], none, []⟩,
 ⟨(some 59), .mv (.tmp 61), none, []⟩,
 ⟨(some 62), .ext (.tmp 59) 0, none, []⟩,
 ⟨(some 63), .ext (.tmp 59) 1, none, []⟩,
 ⟨(some 64), .ext (.tmp 59) 2, none, []⟩,
 ⟨(some 11), .box 23 2 (.val (.agg [(.int .i64 0), (.int .i64 0)])), none, []⟩,
 ⟨none, .st 2 (.tmp 11) (.tmp 62), none, []⟩,
 ⟨(some 12), .mv (.tmp 63), none, []⟩,
 ⟨(some 13), .mv (.tmp 64), none, []⟩])
 (.seq
 (.seq
 (.reg [
 ⟨(some 65), .mv (.tmp 9), none, []⟩,
 ⟨(some 66), .len (.tmp 65), none, []⟩,
 ⟨(some 67), .mv (.tmp 6), none, []⟩,
 ⟨(some 68), .len (.tmp 67), none, []⟩,
 ⟨(some 69), .bin .add (.tmp 68) (.val (.int .i64 1)), none, []⟩,
 ⟨(some 70), .mv (.tmp 0), none, []⟩,
 ⟨(some 71), .mv (.tmp 8), none, []⟩,
 ⟨(some 72), .idxA 2 (.tmp 70) (.tmp 71), none, []⟩,
 ⟨(some 73), .off 1 (.tmp 72), none, []⟩,
 ⟨(some 74), .ld none (.tmp 73), none, []⟩,
 ⟨(some 75), .bin .add (.tmp 74) (.val (.int .i64 7)), none, []⟩,
 ⟨(some 76), .bin .quo (.tmp 75) (.val (.int .i64 8)), none, []⟩,
 ⟨(some 77), .bin .add (.tmp 69) (.tmp 76), none, []⟩,
 ⟨(some 78), .bin .neq (.tmp 66) (.tmp 77), none, []⟩,
 ⟨(some 79), .mv (.tmp 78), none, []⟩,
 ⟨(some 80), .mv (.tmp 13), some (79, false), []⟩,
 ⟨(some 81), .un .not (.tmp 80), some (79, false), []⟩,
 ⟨(some 82), .pick (.tmp 79) (.val (.bool true)) (.tmp 81), none, []⟩,
 ⟨(some 83), .mv (.tmp 82), none, []⟩,
 ⟨(some 84), .ld (some 2) (.tmp 11), some (83, false), []⟩,
 ⟨(some 85), .mv (.tmp 0), some (83, false), []⟩,
 ⟨(some 86), .mv (.tmp 8), some (83, false), []⟩,
 ⟨(some 87), .idxA 2 (.tmp 85) (.tmp 86), some (83, false), []⟩,
 ⟨(some 88), .ld (some 2) (.tmp 87), some (83, false), []⟩,
 ⟨(some 89), .eqA true 2 [(0, 0), (1, 0)] (.tmp 84) (.tmp 88), some (83, false), []⟩,
 ⟨(some 90), .pick (.tmp 83) (.val (.bool true)) (.tmp 89), none, []⟩,
 ⟨(some 91), .mv (.tmp 90), none, []⟩,
 ⟨(some 92), .mv (.tmp 12), some (91, false), []⟩,
 ⟨(some 93), .b2s (.tmp 92), some (91, false), []⟩,
 ⟨(some 94), .mv (.tmp 1), some (91, false), []⟩,
 ⟨(some 95), .b2s (.tmp 94), some (91, false), []⟩,
 ⟨(some 96), .bin .neq (.tmp 93) (.tmp 95), some (91, false), []⟩,
 ⟨(some 97), .pick (.tmp 91) (.val (.bool true)) (.tmp 96), none, []⟩])
 (.cond (.tmp 97)
 (.seq
 (.reg [
 ⟨(some 4), .mv (.val (.bool false)), none, []⟩])
 .ret)
 .skip))
 (.seq
 (.reg [
 ⟨(some 98), .mv (.tmp 9), none, []⟩,
 ⟨(some 6), .mv (.tmp 98), none, []⟩])
 (.reg [
 ⟨(some 99), .mv (.tmp 7), none, []⟩,
 ⟨(some 100), .mv (.tmp 0), none, []⟩,
 ⟨(some 101), .mv (.tmp 8), none, []⟩,
 ⟨(some 102), .idxA 2 (.tmp 100) (.tmp 101), none, []⟩,
 ⟨(some 103), .ld (some 2) (.tmp 102), none, []⟩,
 ⟨(some 104), .lit 23 2 [0, 0] [(.tmp 103)], none, []⟩,
 ⟨(some 105), .app 23 2 16 (.tmp 99) (.tmp 104), none, []⟩,
 ⟨(some 7), .mv (.tmp 105), none, []⟩])))))))))
 (.reg [
 ⟨(some 30), .mv (.tmp 8), none, []⟩,
 ⟨(some 31), .bin .add (.tmp 30) (.val (.int .i64 1)), none, []⟩,
 ⟨(some 8), .mv (.tmp 31), none, []⟩]))))))
 (.seq
 (.reg [
 ⟨(some 107), .mv (.tmp 6), none, []⟩,
 ⟨(some 108), .callS 13 [(.tmp 107)], none, []⟩,
 ⟨(some 106), .mv (.tmp 108), none, []⟩,
 ⟨(some 109), .ext (.tmp 106) 0, none, []⟩,
 ⟨(some 110), .ext (.tmp 106) 1, none, []⟩,
 ⟨(some 14), .mv (.tmp 109), none, []⟩,
 ⟨(some 15), .mv (.tmp 110), none, []⟩])
 (.seq
 (.reg [
 ⟨(some 111), .mv (.tmp 5), none, []⟩,
 ⟨(some 112), .mv (.tmp 111), none, []⟩,
 ⟨(some 113), .mv (.tmp 15), some (112, true), []⟩,
 ⟨(some 114), .pick (.tmp 112) (.tmp 113) (.val (.bool false)), none, []⟩,
 ⟨(some 115), .mv (.tmp 114), none, []⟩,
 ⟨(some 116), .mv (.tmp 14), some (115, true), []⟩,
 ⟨(some 117), .mv (.tmp 7), some (115, true), []⟩,
 ⟨(some 118), .callS 17 [(.tmp 116), (.tmp 117)], some (115, true), []⟩,
 ⟨(some 119), .pick (.tmp 115) (.tmp 118) (.val (.bool false)), none, []⟩,
 ⟨(some 4), .mv (.tmp 119), none, []⟩])
 .ret))))))))
def c_ridgewaylaw02_PrefixBack : AF := ⟨b_ridgewaylaw02_PrefixBack, 120, [.tmp 4]⟩
theorem p_ridgewaylaw02_PrefixBack : prepFunc Tryd.prog 4 = some c_ridgewaylaw02_PrefixBack ∧ hasBody Tryd.prog 4 = true := ⟨by kernel_rfl, by kernel_rfl⟩
def b_prefix_Get : AC :=
 (.seq
 (.reg [
 ⟨(some 2), .box 23 2 (.val (.agg [(.int .i64 0), (.int .i64 0)])), none, []⟩,
 ⟨(some 3), .mv (.val (.slice .full 0 [])), none, []⟩,
 ⟨(some 4), .mv (.val (.bool false)), none, []⟩])
 (.seq
 (.reg [
 ⟨(some 11), .mv (.tmp 0), none, []⟩,
 ⟨(some 12), .callS 30 [(.tmp 11), (.val (.int .i64 1))], none, []⟩,
 ⟨(some 10), .mv (.tmp 12), none, []⟩,
 ⟨(some 13), .ext (.tmp 10) 0, none, []⟩,
 ⟨(some 14), .ext (.tmp 10) 1, none, []⟩,
 ⟨(some 15), .ext (.tmp 10) 2, none, []⟩,
 ⟨(some 5), .mv (.tmp 13), none, []⟩,
 ⟨(some 0), .mv (.tmp 14), none, []⟩,
 ⟨(some 6), .mv (.tmp 15), none, []⟩])
 (.seq
 (.seq
 (.reg [
 ⟨(some 16), .mv (.tmp 6), none, []⟩,
 ⟨(some 17), .un .not (.tmp 16), none, []⟩,
 ⟨(some 18), .mv (.tmp 17), none, []⟩,
 ⟨(some 19), .mv (.tmp 5), some (18, false), []⟩,
 ⟨(some 20), .bin .gtr (.tmp 19) (.val (.int .i64 32)), some (18, false), []⟩,
 ⟨(some 21), .pick (.tmp 18) (.val (.bool true)) (.tmp 20), none, []⟩])
 (.cond (.tmp 21)
 (.seq
 (.reg [
 ⟨(some 22), .bld [(.int .i64 0), (.int .i64 0)] [], none, []⟩,
 ⟨none, .st 2 (.tmp 2) (.tmp 22), none, []⟩,
 ⟨(some 3), .mv (.val (.slice .full 0 [])), none, []⟩,
 ⟨(some 4), .mv (.val (.bool false)), none, []⟩])
 .ret)
 .skip))
 (.seq
 (.reg [
 ⟨(some 23), .mv (.tmp 5), none, []⟩,
 ⟨(some 24), .callS 31 [(.tmp 23)], none, []⟩,
 ⟨(some 7), .mv (.tmp 24), none, []⟩])
 (.seq
 (.seq
 (.reg [
 ⟨(some 25), .mv (.tmp 7), none, []⟩,
 ⟨(some 26), .bin .eql (.tmp 25) (.val (.int .i64 0)), none, []⟩])
 (.cond (.tmp 26)
 (.seq
 (.reg [
 ⟨(some 27), .bld [(.int .i64 0), (.int .i64 0)] [], none, []⟩,
 ⟨(some 28), .mv (.tmp 0), none, []⟩,
 ⟨none, .st 2 (.tmp 2) (.tmp 27), none, []⟩,
 ⟨(some 3), .mv (.tmp 28), none, []⟩,
 ⟨(some 4), .mv (.val (.bool true)), none, []⟩])
 .ret)
 .skip))
 (.seq
 (.reg [
 ⟨(some 30), .mv (.tmp 0), none, []⟩,
 ⟨(some 31), .mv (.tmp 7), none, []⟩,
 ⟨(some 32), .callS 30 [(.tmp 30), (.tmp 31)], none, []⟩,
 ⟨(some 29), .mv (.tmp 32), none, []⟩,
 ⟨(some 33), .ext (.tmp 29) 0, none, []⟩,
 ⟨(some 34), .ext (.tmp 29) 1, none, []⟩,
 ⟨(some 35), .ext (.tmp 29) 2, none, []⟩,
 ⟨(some 8), .mv (.tmp 33), none, []⟩,
 ⟨(some 9), .mv (.tmp 34), none, []⟩,
 ⟨(some 6), .mv (.tmp 35), none, []⟩])
 (.seq
 (.seq
 (.reg [
 ⟨(some 36), .mv (.tmp 6), none, []⟩,
 ⟨(some 37), .un .not (.tmp 36), none, []⟩])
 (.cond (.tmp 37)
 (.seq
 (.reg [
 ⟨(some 38), .bld [(.int .i64 0), (.int .i64 0)] [], none, []⟩,
 ⟨none, .st 2 (.tmp 2) (.tmp 38), none, []⟩,
 ⟨(some 3), .mv (.val (.slice .full 0 [])), none, []⟩,
 ⟨(some 4), .mv (.val (.bool false)), none, []⟩])
 .ret)
 .skip))
 (.seq
 (.reg [
 ⟨(some 39), .mv (.tmp 8), none, []⟩,
 ⟨(some 40), .mv (.tmp 7), none, []⟩,
 ⟨(some 41), .bin .mul (.val (.int .i64 8)) (.tmp 40), none, []⟩,
 ⟨(some 42), .bin .sub (.val (.int .i64 32)) (.tmp 41), none, []⟩,
 ⟨(some 43), .bin .shl (.tmp 39) (.tmp 42), none, []⟩,
 ⟨(some 44), .mv (.tmp 5), none, []⟩,
 ⟨(some 45), .callS 18 [(.tmp 43), (.tmp 44)], none, []⟩,
 ⟨(some 46), .mv (.tmp 5), none, []⟩,
 ⟨(some 47), .bld [(.int .i64 0), (.int .i64 0)] [(0, 1, (.tmp 45)), (1, 1, (.tmp 46))], none, []⟩,
 ⟨(some 48), .mv (.tmp 9), none, []⟩,
 ⟨none, .st 2 (.tmp 2) (.tmp 47), none, []⟩,
 ⟨(some 3), .mv (.tmp 48), none, []⟩,
 ⟨(some 4), .mv (.val (.bool true)), none, []⟩])
 .ret))))))))
def c_prefix_Get : AF := ⟨b_prefix_Get, 49, [.cell 2 (some 2), .tmp 3, .tmp 4]⟩
theorem p_prefix_Get : prepFunc Tryd.prog 11 = some c_prefix_Get ∧ hasBody Tryd.prog 11 = true := ⟨by kernel_rfl, by kernel_rfl⟩
def b_prefix_All : AC :=
 (.seq
 (.reg [
 ⟨(some 2), .mv (.val (.slice .full 0 [])), none, []⟩,
 ⟨(some 3), .mv (.val (.bool false)), none, []⟩])
 (.scope
 (.seq
 (.reg [
 ⟨(some 4), .mv (.val (.slice .full 0 [])), none, []⟩])
 (.seq
 (.label 0)
 (.block 0
 (.loop
 (.block 1
 (.seq
 (.reg [
 ⟨(some 9), .mv (.tmp 0), none, []⟩,
 ⟨(some 10), .callS 11 [(.tmp 9)], none, []⟩,
 ⟨(some 8), .mv (.tmp 10), none, []⟩,
 ⟨(some 11), .ext (.tmp 8) 0, none, []⟩,
 ⟨(some 12), .ext (.tmp 8) 1, none, []⟩,
 ⟨(some 13), .ext (.tmp 8) 2, none, []⟩,
 ⟨(some 5), .box 23 2 (.val (.agg [(.int .i64 0), (.int .i64 0)])), none, []⟩,
 ⟨none, .st 2 (.tmp 5) (.tmp 11), none, []⟩,
 ⟨(some 6), .mv (.tmp 12), none, []⟩,
 ⟨(some 7), .mv (.tmp 13), none, []⟩])
 (.seq
 (.block 2
 (.seq
 (.reg [
 ⟨(some 15), .mv (.tmp 7), none, []⟩,
 ⟨(some 14), .mv (.tmp 15), none, []⟩])
 (.cond (.tmp 14)
 (.seq
 (.reg [
 ⟨(some 16), .mv (.tmp 4), none, []⟩,
 ⟨(some 17), .ld (some 2) (.tmp 5), none, []⟩,
 ⟨(some 18), .lit 23 2 [0, 0] [(.tmp 17)], none, []⟩,
 ⟨(some 19), .app 23 2 16 (.tmp 16) (.tmp 18), none, []⟩,
 ⟨(some 20), .mv (.tmp 6), none, []⟩,
 ⟨(some 4), .mv (.tmp 19), none, []⟩,
 ⟨(some 0), .mv (.tmp 20), none, []⟩])
 (.exit 1))
 (.seq
 (.reg [
 ⟨(some 22), .mv (.tmp 0), none, []⟩,
 ⟨(some 23), .len (.tmp 22), none, []⟩,
 ⟨(some 24), .bin .gtr (.tmp 23) (.val (.int .i64 0)), none, []⟩,
 ⟨(some 21), .mv (.tmp 24), none, []⟩])
 (.cond (.tmp 21)
 (.seq
 (.reg [
 ⟨(some 2), .mv (.val (.slice .full 0 [])), none, []⟩,
 ⟨(some 3), .mv (.val (.bool false)), none, []⟩])
 .ret)
 .skip)))))
 (.seq
 (.reg [
 ⟨(some 25), .mv (.tmp 4), none, []⟩,
 ⟨(some 2), .mv (.tmp 25), none, []⟩,
 ⟨(some 3), .mv (.val (.bool true)), none, []⟩])
 .ret))))))))))
def c_prefix_All : AF := ⟨b_prefix_All, 26, [.tmp 2, .tmp 3]⟩
theorem p_prefix_All : prepFunc Tryd.prog 13 = some c_prefix_All ∧ hasBody Tryd.prog 13 = true := ⟨by kernel_rfl, by kernel_rfl⟩
def b_ridgewayref02_Same : AC :=
 (.seq
 (.reg [
 ⟨(some 4), .mv (.val (.bool false)), none, []⟩])
 (.seq
 (.seq
 (.reg [
 ⟨(some 6), .mv (.tmp 0), none, []⟩,
 ⟨(some 7), .len (.tmp 6), none, []⟩,
 ⟨(some 8), .mv (.tmp 1), none, []⟩,
 ⟨(some 9), .len (.tmp 8), none, []⟩,
 ⟨(some 10), .bin .neq (.tmp 7) (.tmp 9), none, []⟩])
 (.cond (.tmp 10)
 (.seq
 (.reg [
 ⟨(some 4), .mv (.val (.bool false)), none, []⟩])
 .ret)
 .skip))
 (.seq
 (.seq
 (.reg [
 ⟨(some 5), .mv (.val (.int .i64 0)), none, []⟩])
 (.block 0
 (.loop
 (.seq
 (.seq
 (.reg [
 ⟨(some 11), .mv (.tmp 5), none, []⟩,
 ⟨(some 12), .mv (.tmp 0), none, []⟩,
 ⟨(some 13), .len (.tmp 12), none, []⟩,
 ⟨(some 14), .bin .lss (.tmp 11) (.tmp 13), none, []⟩])
 (.cond (.tmp 14)
 .skip
 (.exit 0)))
 (.seq
 (.block 1
 (.seq
 (.reg [
 ⟨(some 17), .mv (.tmp 0), none, []⟩,
 ⟨(some 18), .mv (.tmp 5), none, []⟩,
 ⟨(some 19), .idxA 2 (.tmp 17) (.tmp 18), none, []⟩,
 ⟨(some 20), .ld (some 2) (.tmp 19), none, []⟩,
 ⟨(some 21), .mv (.tmp 1), none, []⟩,
 ⟨(some 22), .mv (.tmp 5), none, []⟩,
 ⟨(some 23), .idxA 2 (.tmp 21) (.tmp 22), none, []⟩,
 ⟨(some 24), .ld (some 2) (.tmp 23), none, []⟩,
 ⟨(some 25), .eqA true 2 [(0, 0), (1, 0)] (.tmp 20) (.tmp 24), none, []⟩])
 (.cond (.tmp 25)
 (.seq
 (.reg [
 ⟨(some 4), .mv (.val (.bool false)), none, []⟩])
 .ret)
 .skip)))
 (.reg [
 ⟨(some 15), .mv (.tmp 5), none, []⟩,
 ⟨(some 16), .bin .add (.tmp 15) (.val (.int .i64 1)), none, []⟩,
 ⟨(some 5), .mv (.tmp 16), none, []⟩]))))))
 (.seq
 (.reg [
 ⟨(some 4), .mv (.val (.bool true)), none, []⟩])
 .ret))))
def c_ridgewayref02_Same : AF := ⟨b_ridgewayref02_Same, 26, [.tmp 4]⟩
theorem p_ridgewayref02_Same : prepFunc Tryd.prog 17 = some c_ridgewayref02_Same ∧ hasBody Tryd.prog 17 = true := ⟨by kernel_rfl, by kernel_rfl⟩
def b_prefix_Mask : AC :=
 (.seq
 (.reg [
 ⟨(some 4), .mv (.val (.int .i64 0)), none, []⟩])
 (.seq
 (.reg [
 ⟨(some 6), .mv (.tmp 1), none, []⟩,
 ⟨(some 7), .mx (.tmp 6) (.val (.int .i64 0)), none, []⟩,
 ⟨(some 8), .mn (.tmp 7) (.val (.int .i64 32)), none, []⟩,
 ⟨(some 9), .bin .sub (.val (.int .i64 32)) (.tmp 8), none, []⟩,
 ⟨(some 5), .mv (.tmp 9), none, []⟩])
 (.seq
 (.reg [
 ⟨(some 10), .mv (.tmp 0), none, []⟩,
 ⟨(some 11), .bin .and (.tmp 10) (.val (.int .i64 4294967295)), none, []⟩,
 ⟨(some 12), .mv (.tmp 5), none, []⟩,
 ⟨(some 13), .bin .shr (.tmp 11) (.tmp 12), none, []⟩,
 ⟨(some 14), .mv (.tmp 5), none, []⟩,
 ⟨(some 15), .bin .shl (.tmp 13) (.tmp 14), none, []⟩,
 ⟨(some 4), .mv (.tmp 15), none, []⟩])
 .ret)))
def c_prefix_Mask : AF := ⟨b_prefix_Mask, 16, [.tmp 4]⟩
theorem p_prefix_Mask : prepFunc Tryd.prog 18 = some c_prefix_Mask ∧ hasBody Tryd.prog 18 = true := ⟨by kernel_rfl, by kernel_rfl⟩
def b_prefix_Sane : AC :=
 (.seq
 (.reg [
 ⟨(some 1), .box 23 2 (.tmp 0), none, []⟩,
 ⟨(some 2), .mv (.val (.bool false)), none, []⟩])
 (.seq
 (.reg [
 ⟨(some 3), .off 1 (.tmp 1), none, []⟩,
 ⟨(some 4), .ld none (.tmp 3), none, []⟩,
 ⟨(some 5), .bin .geq (.tmp 4) (.val (.int .i64 0)), none, []⟩,
 ⟨(some 6), .mv (.tmp 5), none, []⟩,
 ⟨(some 7), .off 1 (.tmp 1), some (6, true), []⟩,
 ⟨(some 8), .ld none (.tmp 7), some (6, true), []⟩,
 ⟨(some 9), .bin .leq (.tmp 8) (.val (.int .i64 32)), some (6, true), []⟩,
 ⟨(some 10), .pick (.tmp 6) (.tmp 9) (.val (.bool false)), none, []⟩,
 ⟨(some 11), .mv (.tmp 10), none, []⟩,
 ⟨(some 12), .off 0 (.tmp 1), some (11, true), []⟩,
 ⟨(some 13), .ld none (.tmp 12), some (11, true), []⟩,
 ⟨(some 14), .off 1 (.tmp 1), some (11, true), []⟩,
 ⟨(some 15), .ld none (.tmp 14), some (11, true), []⟩,
 ⟨(some 16), .call 18 [(.tmp 13), (.tmp 15)], some (11, true), []⟩,
 ⟨(some 17), .off 0 (.tmp 1), some (11, true), []⟩,
 ⟨(some 18), .ld none (.tmp 17), some (11, true), []⟩,
 ⟨(some 19), .bin .eql (.tmp 16) (.tmp 18), some (11, true), []⟩,
 ⟨(some 20), .pick (.tmp 11) (.tmp 19) (.val (.bool false)), none, []⟩,
 ⟨(some 2), .mv (.tmp 20), none, []⟩])
 .ret))
def c_prefix_Sane : AF := ⟨b_prefix_Sane, 21, [.tmp 2]⟩
theorem p_prefix_Sane : prepFunc Tryd.prog 20 = some c_prefix_Sane ∧ hasBody Tryd.prog 20 = true := ⟨by kernel_rfl, by kernel_rfl⟩
def b_prefix_Put : AC :=
 (.seq
 (.reg [
 ⟨(some 3), .box 23 2 (.tmp 1), none, []⟩,
 ⟨(some 4), .mv (.val (.slice .full 0 [])), none, []⟩])
 (.seq
 (.seq
 (.reg [
 ⟨(some 6), .ld (some 2) (.tmp 3), none, []⟩,
 ⟨(some 7), .callS 20 [(.tmp 6)], none, []⟩,
 ⟨(some 8), .un .not (.tmp 7), none, []⟩])
 (.cond (.tmp 8)
 (.seq
 (.reg [
 ⟨(some 9), .mv (.tmp 0), none, []⟩,
 ⟨(some 4), .mv (.tmp 9), none, []⟩])
 .ret)
 .skip))
 (.seq
 (.reg [
 ⟨(some 10), .off 1 (.tmp 3), none, []⟩,
 ⟨(some 11), .ld none (.tmp 10), none, []⟩,
 ⟨(some 12), .callS 31 [(.tmp 11)], none, []⟩,
 ⟨(some 5), .mv (.tmp 12), none, []⟩])
 (.seq
 (.reg [
 ⟨(some 13), .mv (.tmp 0), none, []⟩,
 ⟨(some 14), .off 1 (.tmp 3), none, []⟩,
 ⟨(some 15), .ld none (.tmp 14), none, []⟩,
 ⟨(some 16), .call 42 [(.tmp 13), (.tmp 15), (.val (.int .i64 1))], none, []⟩,
 ⟨(some 17), .off 0 (.tmp 3), none, []⟩,
 ⟨(some 18), .ld none (.tmp 17), none, []⟩,
 ⟨(some 19), .mv (.tmp 5), none, []⟩,
 ⟨(some 20), .bin .mul (.val (.int .i64 8)) (.tmp 19), none, []⟩,
 ⟨(some 21), .bin .sub (.val (.int .i64 32)) (.tmp 20), none, []⟩,
 ⟨(some 22), .bin .shr (.tmp 18) (.tmp 21), none, []⟩,
 ⟨(some 23), .mv (.tmp 5), none, []⟩,
 ⟨(some 24), .callS 42 [(.tmp 16), (.tmp 22), (.tmp 23)], none, []⟩,
 ⟨(some 4), .mv (.tmp 24), none, []⟩])
 .ret))))
def c_prefix_Put : AF := ⟨b_prefix_Put, 25, [.tmp 4]⟩
theorem p_prefix_Put : prepFunc Tryd.prog 26 = some c_prefix_Put ∧ hasBody Tryd.prog 26 = true := ⟨by kernel_rfl, by kernel_rfl⟩
def b_octet_Get : AC :=
 (.seq
 (.reg [
 ⟨(some 4), .mv (.val (.int .i64 0)), none, []⟩,
 ⟨(some 5), .mv (.val (.slice .full 0 [])), none, []⟩,
 ⟨(some 6), .mv (.val (.bool false)), none, []⟩])
 (.seq
 (.seq
 (.reg [
 ⟨(some 13), .mv (.tmp 1), none, []⟩,
 ⟨(some 14), .bin .lss (.tmp 13) (.val (.int .i64 1)), none, []⟩,
 ⟨(some 15), .mv (.tmp 14), none, []⟩,
 ⟨(some 16), .mv (.tmp 1), some (15, false), []⟩,
 ⟨(some 17), .bin .gtr (.tmp 16) (.val (.int .i64 4)), some (15, false), []⟩,
 ⟨(some 18), .pick (.tmp 15) (.val (.bool true)) (.tmp 17), none, []⟩])
 (.cond (.tmp 18)
 (.seq
 (.reg [
 ⟨(some 4), .mv (.val (.int .i64 0)), none, []⟩,
 ⟨(some 5), .mv (.val (.slice .full 0 [])), none, []⟩,
 ⟨(some 6), .mv (.val (.bool false)), none, []⟩])
 .ret)
 .skip))
 (.seq
 (.reg [
 ⟨(some 20), .mv (.tmp 0), none, []⟩,
 ⟨(some 21), .mv (.tmp 1), none, []⟩,
 ⟨(some 22), .callS 46 [(.tmp 20), (.tmp 21)], none, []⟩,
 ⟨(some 19), .mv (.tmp 22), none, []⟩,
 ⟨(some 23), .ext (.tmp 19) 0, none, []⟩,
 ⟨(some 24), .ext (.tmp 19) 1, none, []⟩,
 ⟨(some 25), .ext (.tmp 19) 2, none, []⟩,
 ⟨(some 7), .mv (.tmp 23), none, []⟩,
 ⟨(some 8), .mv (.tmp 24), none, []⟩,
 ⟨(some 9), .mv (.tmp 25), none, []⟩])
 (.seq
 (.reg [
 ⟨(some 10), .mv (.val (.int .i64 0)), none, []⟩])
 (.seq
 (.seq
 (.reg [
 ⟨(some 26), .mv (.tmp 7), none, []⟩,
 ⟨(some 27), .len (.tmp 26), none, []⟩,
 ⟨(some 28), .mv (.val (.int .i64 0)), none, []⟩])
 (.block 0
 (.loop
 (.seq
 (.reg [
 ⟨(some 29), .bin .lss (.tmp 28) (.tmp 27), none, []⟩])
 (.seq
 (.cond (.tmp 29)
 .skip
 (.exit 0))
 (.seq
 (.block 1
 (.seq
 (.reg [
 ⟨(some 30), .idxA 1 (.tmp 26) (.tmp 28), none, []⟩,
 ⟨(some 31), .ld none (.tmp 30), none, []⟩,
 ⟨(some 12), .mv (.tmp 31), none, []⟩])
 (.reg [
 ⟨(some 32), .mv (.tmp 10), none, []⟩,
 ⟨(some 33), .bin .shl (.tmp 32) (.val (.int .u64 8)), none, []⟩,
 ⟨(some 34), .mv (.tmp 12), none, []⟩,
 ⟨(some 35), .conv .i64 (.tmp 34), none, []⟩,
 ⟨(some 36), .bin .or (.tmp 33) (.tmp 35), none, []⟩,
 ⟨(some 10), .mv (.tmp 36), none, []⟩])))
 (.reg [
 ⟨(some 37), .bin .add (.tmp 28) (.val (.int .i64 1)), none, []⟩,
 ⟨(some 28), .mv (.tmp 37), none, []⟩])))))))
 (.seq
 (.reg [
 ⟨(some 38), .mv (.tmp 10), none, []⟩,
 ⟨(some 39), .mv (.tmp 8), none, []⟩,
 ⟨(some 40), .mv (.tmp 9), none, []⟩,
 ⟨(some 4), .mv (.tmp 38), none, []⟩,
 ⟨(some 5), .mv (.tmp 39), none, []⟩,
 ⟨(some 6), .mv (.tmp 40), none, []⟩])
 .ret))))))
def c_octet_Get : AF := ⟨b_octet_Get, 41, [.tmp 4, .tmp 5, .tmp 6]⟩
theorem p_octet_Get : prepFunc Tryd.prog 30 = some c_octet_Get ∧ hasBody Tryd.prog 30 = true := ⟨by kernel_rfl, by kernel_rfl⟩
def b_prefix_size : AC :=
 (.seq
 (.reg [
 ⟨(some 2), .mv (.val (.int .i64 0)), none, []⟩])
 (.seq
 (.reg [
 ⟨(some 3), .mv (.tmp 0), none, []⟩,
 ⟨(some 4), .bin .add (.tmp 3) (.val (.int .i64 7)), none, []⟩,
 ⟨(some 5), .bin .quo (.tmp 4) (.val (.int .i64 8)), none, []⟩,
 ⟨(some 2), .mv (.tmp 5), none, []⟩])
 .ret))
def c_prefix_size : AF := ⟨b_prefix_size, 6, [.tmp 2]⟩
theorem p_prefix_size : prepFunc Tryd.prog 31 = some c_prefix_size ∧ hasBody Tryd.prog 31 = true := ⟨by kernel_rfl, by kernel_rfl⟩
def b_octet_Put : AC :=
 (.seq
 (.reg [
 ⟨(some 6), .mv (.val (.slice .full 0 [])), none, []⟩])
 (.seq
 (.seq
 (.reg [
 ⟨(some 9), .mv (.tmp 2), none, []⟩,
 ⟨(some 10), .bin .lss (.tmp 9) (.val (.int .i64 1)), none, []⟩,
 ⟨(some 11), .mv (.tmp 10), none, []⟩,
 ⟨(some 12), .mv (.tmp 2), some (11, false), []⟩,
 ⟨(some 13), .bin .gtr (.tmp 12) (.val (.int .i64 4)), some (11, false), []⟩,
 ⟨(some 14), .pick (.tmp 11) (.val (.bool true)) (.tmp 13), none, []⟩])
 (.cond (.tmp 14)
 (.seq
 (.reg [
 ⟨(some 15), .mv (.tmp 0), none, []⟩,
 ⟨(some 6), .mv (.tmp 15), none, []⟩])
 .ret)
 .skip))
 (.seq
 (.reg [
 ⟨(some 16), .mv (.tmp 0), none, []⟩,
 ⟨(some 17), .mv (.tmp 0), none, []⟩,
 ⟨(some 18), .len (.tmp 17), none, []⟩,
 ⟨(some 19), .mv (.tmp 0), none, []⟩,
 ⟨(some 20), .len (.tmp 19), none, []⟩,
 ⟨(some 21), .slc 1 (.tmp 16) none (some (.tmp 18)) (some (.tmp 20)), none, []⟩,
 ⟨(some 7), .mv (.tmp 21), none, []⟩])
 (.seq
 (.seq
 (.reg [
 ⟨(some 22), .mv (.tmp 2), none, []⟩,
 ⟨(some 23), .mv (.val (.int .i64 0)), none, []⟩])
 (.block 0
 (.loop
 (.seq
 (.reg [
 ⟨(some 24), .bin .lss (.tmp 23) (.tmp 22), none, []⟩])
 (.seq
 (.cond (.tmp 24)
 .skip
 (.exit 0))
 (.seq
 (.block 1
 (.seq
 (.reg [
 ⟨(some 25), .mv (.tmp 23), none, []⟩,
 ⟨(some 8), .mv (.tmp 25), none, []⟩])
 (.reg [
 ⟨(some 26), .mv (.tmp 7), none, []⟩,
 ⟨(some 27), .mv (.tmp 1), none, []⟩,
 ⟨(some 28), .mv (.tmp 2), none, []⟩,
 ⟨(some 29), .bin .sub (.tmp 28) (.val (.int .i64 1)), none, []⟩,
 ⟨(some 30), .mv (.tmp 8), none, []⟩,
 ⟨(some 31), .bin .sub (.tmp 29) (.tmp 30), none, []⟩,
 ⟨(some 32), .bin .mul (.val (.int .i64 8)) (.tmp 31), none, []⟩,
 ⟨(some 33), .bin .shr (.tmp 27) (.tmp 32), none, []⟩,
 ⟨(some 34), .conv .u8 (.tmp 33), none, []⟩,
 ⟨(some 35), .lit 5 1 [0] [(.tmp 34)], none, []⟩,
 ⟨(some 36), .app 5 1 1 (.tmp 26) (.tmp 35), none, []⟩,
 ⟨(some 7), .mv (.tmp 36), none, []⟩])))
 (.reg [
 ⟨(some 37), .bin .add (.tmp 23) (.val (.int .i64 1)), none, []⟩,
 ⟨(some 23), .mv (.tmp 37), none, []⟩])))))))
 (.seq
 (.reg [
 ⟨(some 38), .mv (.tmp 7), none, []⟩,
 ⟨(some 6), .mv (.tmp 38), none, []⟩])
 .ret)))))
def c_octet_Put : AF := ⟨b_octet_Put, 39, [.tmp 6]⟩
theorem p_octet_Put : prepFunc Tryd.prog 42 = some c_octet_Put ∧ hasBody Tryd.prog 42 = true := ⟨by kernel_rfl, by kernel_rfl⟩
def b_octet_Take : AC :=
 (.seq
 (.reg [
 ⟨(some 4), .mv (.val (.slice .full 0 [])), none, []⟩,
 ⟨(some 5), .mv (.val (.slice .full 0 [])), none, []⟩,
 ⟨(some 6), .mv (.val (.bool false)), none, []⟩])
 (.seq
 (.seq
 (.reg [
 ⟨(some 7), .mv (.tmp 1), none, []⟩,
 ⟨(some 8), .bin .lss (.tmp 7) (.val (.int .i64 0)), none, []⟩,
 ⟨(some 9), .mv (.tmp 8), none, []⟩,
 ⟨(some 10), .mv (.tmp 1), some (9, false), []⟩,
 ⟨(some 11), .mv (.tmp 0), some (9, false), []⟩,
 ⟨(some 12), .len (.tmp 11), some (9, false), []⟩,
 ⟨(some 13), .bin .gtr (.tmp 10) (.tmp 12), some (9, false), []⟩,
 ⟨(some 14), .pick (.tmp 9) (.val (.bool true)) (.tmp 13), none, []⟩])
 (.cond (.tmp 14)
 (.seq
 (.reg [
 ⟨(some 4), .mv (.val (.slice .full 0 [])), none, []⟩,
 ⟨(some 5), .mv (.val (.slice .full 0 [])), none, []⟩,
 ⟨(some 6), .mv (.val (.bool false)), none, []⟩])
 .ret)
 .skip))
 (.seq
 (.reg [
 ⟨(some 15), .mv (.tmp 0), none, []⟩,
 ⟨(some 16), .mv (.tmp 1), none, []⟩,
 ⟨(some 17), .mv (.tmp 1), none, []⟩,
 ⟨(some 18), .slc 1 (.tmp 15) none (some (.tmp 16)) (some (.tmp 17)), none, []⟩,
 ⟨(some 19), .mv (.tmp 0), none, []⟩,
 ⟨(some 20), .mv (.tmp 1), none, []⟩,
 ⟨(some 21), .slc 1 (.tmp 19) (some (.tmp 20)) none none, none, []⟩,
 ⟨(some 4), .mv (.tmp 18), none, []⟩,
 ⟨(some 5), .mv (.tmp 21), none, []⟩,
 ⟨(some 6), .mv (.val (.bool true)), none, []⟩])
 .ret)))
def c_octet_Take : AF := ⟨b_octet_Take, 22, [.tmp 4, .tmp 5, .tmp 6]⟩
theorem p_octet_Take : prepFunc Tryd.prog 46 = some c_octet_Take ∧ hasBody Tryd.prog 46 = true := ⟨by kernel_rfl, by kernel_rfl⟩
def tab : Tab := [(4, c_ridgewaylaw02_PrefixBack), (11, c_prefix_Get), (13, c_prefix_All), (17, c_ridgewayref02_Same), (18, c_prefix_Mask), (20, c_prefix_Sane), (26, c_prefix_Put), (30, c_octet_Get), (31, c_prefix_size), (42, c_octet_Put), (46, c_octet_Take)]
theorem tab_ok : Tab.Ok Tryd.prog tab := ⟨p_ridgewaylaw02_PrefixBack, p_prefix_Get, p_prefix_All, p_ridgewayref02_Same, p_prefix_Mask, p_prefix_Sane, p_prefix_Put, p_octet_Get, p_prefix_size, p_octet_Put, p_octet_Take, trivial⟩
end Go.Proofs.YtppekacobjdhnaaDoor
