/- Plain forms of functions. -/
import Derived.Test.YtkdodhkiemfpeaaAv16
import Derived.Test.YtkdodhkiemfpeaaProg
import Derived.KernelRfl
namespace Go.Proofs.Ytkdodhkiemfpeaa
set_option maxRecDepth 100000
set_option maxHeartbeats 1000000
def b_ridgewaylaw08_UpdateIs : AC :=
 (.seq
 (.reg [
 ⟨(some 2), .box 27 6 (.tmp 0), none, []⟩,
 ⟨(some 3), .box 30 2 (.tmp 1), none, []⟩,
 ⟨(some 4), .mv (.val (.bool false)), none, []⟩])
 (.seq
 (.reg [
 ⟨(some 10), .callS 11 [], none, []⟩,
 ⟨(some 5), .mv (.tmp 10), none, []⟩])
 (.seq
 (.seq
 (.reg [
 ⟨(some 11), .ld (some 6) (.tmp 2), none, []⟩,
 ⟨(some 12), .callS 12 [(.tmp 11)], none, []⟩,
 ⟨(some 13), .un .not (.tmp 12), none, []⟩,
 ⟨(some 14), .mv (.tmp 13), none, []⟩,
 ⟨(some 15), .off 1 (.tmp 3), some (14, false), []⟩,
 ⟨(some 16), .ld none (.tmp 15), some (14, false), []⟩,
 ⟨(some 17), .len (.tmp 16), some (14, false), []⟩,
 ⟨(some 18), .bin .gtr (.tmp 17) (.val (.int .i64 5000)), some (14, false), []⟩,
 ⟨(some 19), .pick (.tmp 14) (.val (.bool true)) (.tmp 18), none, []⟩])
 (.cond (.tmp 19)
 (.seq
 (.reg [
 ⟨(some 20), .mv (.tmp 5), none, []⟩,
 ⟨(some 4), .mv (.tmp 20), none, []⟩])
 .ret)
 .skip))
 (.seq
 (.reg [
 ⟨(some 22), .ld (some 2) (.tmp 3), none, []⟩,
 ⟨(some 23), .callS 13 [(.tmp 22)], none, []⟩,
 ⟨(some 21), .mv (.tmp 23), none, []⟩,
 ⟨(some 24), .ext (.tmp 21) 0, none, []⟩,
 ⟨(some 25), .ext (.tmp 21) 1, none, []⟩,
 ⟨(some 6), .box 27 6 (.val (.agg [(.slice .full 0 []), (.int .i64 0), (.slice .full 0 []), (.int .i64 0), (.int .i64 0), (.slice .full 0 [])])), none, []⟩,
 ⟨(some 7), .box 34 3 (.val (.agg [(.int .i64 0), (.int .i64 0), (.slice .full 0 [])])), none, []⟩,
 ⟨none, .st 6 (.tmp 6) (.tmp 24), none, []⟩,
 ⟨none, .st 3 (.tmp 7) (.tmp 25), none, []⟩])
 (.seq
 (.reg [
 ⟨(some 27), .ld (some 2) (.tmp 3), none, []⟩,
 ⟨(some 28), .callS 14 [(.tmp 27)], none, []⟩,
 ⟨(some 26), .mv (.tmp 28), none, []⟩,
 ⟨(some 29), .ext (.tmp 26) 0, none, []⟩,
 ⟨(some 30), .ext (.tmp 26) 1, none, []⟩,
 ⟨(some 8), .box 27 6 (.val (.agg [(.slice .full 0 []), (.int .i64 0), (.slice .full 0 []), (.int .i64 0), (.int .i64 0), (.slice .full 0 [])])), none, []⟩,
 ⟨(some 9), .box 34 3 (.val (.agg [(.int .i64 0), (.int .i64 0), (.slice .full 0 [])])), none, []⟩,
 ⟨none, .st 6 (.tmp 8) (.tmp 29), none, []⟩,
 ⟨none, .st 3 (.tmp 9) (.tmp 30), none, []⟩])
 (.seq
 (.reg [
 ⟨(some 31), .mv (.tmp 5), none, []⟩,
 ⟨(some 32), .mv (.tmp 31), none, []⟩,
 ⟨(some 33), .ld (some 6) (.tmp 6), some (32, true), []⟩,
 ⟨(some 34), .ld (some 6) (.tmp 8), some (32, true), []⟩,
 ⟨(some 35), .call 15 [(.tmp 33), (.tmp 34)], some (32, true), []⟩,
 ⟨(some 36), .pick (.tmp 32) (.tmp 35) (.val (.bool false)), none, []⟩,
 ⟨(some 37), .mv (.tmp 36), none, []⟩,
 ⟨(some 38), .ld (some 3) (.tmp 7), some (37, true), []⟩,
 ⟨(some 39), .ld (some 3) (.tmp 9), some (37, true), []⟩,
 ⟨(some 40), .call 16 [(.tmp 38), (.tmp 39)], some (37, true), []⟩,
 ⟨(some 41), .pick (.tmp 37) (.tmp 40) (.val (.bool false)), none, []⟩,
 ⟨(some 42), .mv (.tmp 41), none, []⟩,
 ⟨(some 43), .ld (some 6) (.tmp 2), some (42, true), []⟩,
 ⟨(some 44), .call 17 [(.tmp 43)], some (42, true), []⟩,
 ⟨(some 45), .ld (some 6) (.tmp 2), some (42, true), []⟩,
 ⟨(some 46), .call 18 [(.tmp 45)], some (42, true), []⟩,
 ⟨(some 47), .eqB false (.tmp 44) (.tmp 46), some (42, true), []⟩,
 ⟨(some 48), .pick (.tmp 42) (.tmp 47) (.val (.bool false)), none, []⟩,
 ⟨(some 49), .mv (.tmp 48), none, []⟩,
 ⟨(some 50), .ld (some 6) (.tmp 2), some (49, true), []⟩,
 ⟨(some 51), .call 20 [(.tmp 50)], some (49, true), []⟩,
 ⟨(some 52), .ld (some 6) (.tmp 2), some (49, true), []⟩,
 ⟨(some 53), .callS 21 [(.tmp 52)], some (49, true), []⟩,
 ⟨(some 54), .callS 19 [(.tmp 51), (.tmp 53)], some (49, true), []⟩,
 ⟨(some 55), .pick (.tmp 49) (.tmp 54) (.val (.bool false)), none, []⟩,
 ⟨(some 4), .mv (.tmp 55), none, []⟩])
 .ret))))))
def c_ridgewaylaw08_UpdateIs : AF := ⟨b_ridgewaylaw08_UpdateIs, 56, [.tmp 4]⟩
theorem p_ridgewaylaw08_UpdateIs : prepFunc Try.prog 3 = some c_ridgewaylaw08_UpdateIs ∧ hasBody Try.prog 3 = true := ⟨by kernel_rfl, by kernel_rfl⟩
def b_ridgewaylaw08_awake : AC :=
 (.seq
 (.reg [
 ⟨(some 0), .mv (.val (.bool false)), none, []⟩])
 (.seq
 (.reg [
 ⟨(some 5), .bld [(.int .i64 0), (.int .i64 0)] [(0, 1, (.val (.int .i64 167772160))), (1, 1, (.val (.int .i64 8)))], none, []⟩,
 ⟨(some 6), .lit 48 2 [0, 0] [(.tmp 5)], none, []⟩,
 ⟨(some 7), .bld [(.slice .full 0 []), (.int .i64 0), (.slice .full 0 []), (.int .i64 0), (.int .i64 0), (.slice .full 0 [])] [(0, 1, (.tmp 6))], none, []⟩,
 ⟨(some 8), .callS 20 [(.tmp 7)], none, []⟩,
 ⟨(some 1), .box 30 2 (.val (.agg [(.int .i64 0), (.slice .full 0 [])])), none, []⟩,
 ⟨none, .st 2 (.tmp 1) (.tmp 8), none, []⟩])
 (.seq
 (.reg [
 ⟨(some 9), .lit 3 1 [0] [(.val (.int .i64 7))], none, []⟩,
 ⟨(some 10), .bld [(.int .i64 0), (.slice .full 0 []), (.int .i64 0), (.int .i64 0)] [(1, 1, (.tmp 9)), (2, 1, (.val (.int .i64 1)))], none, []⟩,
 ⟨(some 2), .box 25 4 (.val (.agg [(.int .i64 0), (.slice .full 0 []), (.int .i64 0), (.int .i64 0)])), none, []⟩,
 ⟨none, .st 4 (.tmp 2) (.tmp 10), none, []⟩])
 (.seq
 (.reg [
 ⟨(some 12), .ld (some 4) (.tmp 2), none, []⟩,
 ⟨(some 13), .bld [(.int .i64 0), (.int .i64 0)] [(0, 1, (.val (.int .i64 167772160))), (1, 1, (.val (.int .i64 8)))], none, []⟩,
 ⟨(some 14), .lit 48 2 [0, 0] [(.tmp 13)], none, []⟩,
 ⟨(some 15), .bld [(.slice .full 0 []), (.int .i64 0), (.slice .full 0 []), (.int .i64 0), (.int .i64 0), (.slice .full 0 [])] [(1, 4, (.tmp 12)), (5, 1, (.tmp 14))], none, []⟩,
 ⟨(some 16), .callS 20 [(.tmp 15)], none, []⟩,
 ⟨(some 17), .callS 13 [(.tmp 16)], none, []⟩,
 ⟨(some 11), .mv (.tmp 17), none, []⟩,
 ⟨(some 18), .ext (.tmp 11) 0, none, []⟩,
 ⟨(some 19), .ext (.tmp 11) 1, none, []⟩,
 ⟨(some 3), .box 27 6 (.val (.agg [(.slice .full 0 []), (.int .i64 0), (.slice .full 0 []), (.int .i64 0), (.int .i64 0), (.slice .full 0 [])])), none, []⟩,
 ⟨(some 4), .box 34 3 (.val (.agg [(.int .i64 0), (.int .i64 0), (.slice .full 0 [])])), none, []⟩,
 ⟨none, .st 6 (.tmp 3) (.tmp 18), none, []⟩,
 ⟨none, .st 3 (.tmp 4) (.tmp 19), none, []⟩])
 (.seq
 (.reg [
 ⟨(some 20), .off 1 (.tmp 1), none, []⟩,
 ⟨(some 21), .ld none (.tmp 20), none, []⟩,
 ⟨(some 22), .b2s (.tmp 21), none, []⟩,
 ⟨(some 23), .bin .eql (.tmp 22) (.val (.str ⟨⟨[0, 2, 8, 10, 0, 0]⟩⟩)), none, []⟩,
 ⟨(some 24), .mv (.tmp 23), none, []⟩,
 ⟨(some 25), .off 0 (.tmp 1), some (24, true), []⟩,
 ⟨(some 26), .ld none (.tmp 25), some (24, true), []⟩,
 ⟨(some 27), .bin .eql (.tmp 26) (.val (.int .i64 2)), some (24, true), []⟩,
 ⟨(some 28), .pick (.tmp 24) (.tmp 27) (.val (.bool false)), none, []⟩,
 ⟨(some 29), .mv (.tmp 28), none, []⟩,
 ⟨(some 30), .off 0 (.tmp 4), some (29, true), []⟩,
 ⟨(some 31), .ld none (.tmp 30), some (29, true), []⟩,
 ⟨(some 32), .bin .eql (.tmp 31) (.val (.int .i64 0)), some (29, true), []⟩,
 ⟨(some 33), .pick (.tmp 29) (.tmp 32) (.val (.bool false)), none, []⟩,
 ⟨(some 34), .mv (.tmp 33), none, []⟩,
 ⟨(some 35), .off 1 (.tmp 3), some (34, true), []⟩,
 ⟨(some 36), .ld (some 4) (.tmp 35), some (34, true), []⟩,
 ⟨(some 37), .ld (some 4) (.tmp 2), some (34, true), []⟩,
 ⟨(some 38), .callS 27 [(.tmp 36), (.tmp 37)], some (34, true), []⟩,
 ⟨(some 39), .pick (.tmp 34) (.tmp 38) (.val (.bool false)), none, []⟩,
 ⟨(some 40), .mv (.tmp 39), none, []⟩,
 ⟨(some 41), .off 5 (.tmp 3), some (40, true), []⟩,
 ⟨(some 42), .ld none (.tmp 41), some (40, true), []⟩,
 ⟨(some 43), .len (.tmp 42), some (40, true), []⟩,
 ⟨(some 44), .bin .eql (.tmp 43) (.val (.int .i64 1)), some (40, true), []⟩,
 ⟨(some 45), .pick (.tmp 40) (.tmp 44) (.val (.bool false)), none, []⟩,
 ⟨(some 46), .mv (.tmp 45), none, []⟩,
 ⟨(some 47), .off 0 (.tmp 3), some (46, true), []⟩,
 ⟨(some 48), .ld none (.tmp 47), some (46, true), []⟩,
 ⟨(some 49), .len (.tmp 48), some (46, true), []⟩,
 ⟨(some 50), .bin .eql (.tmp 49) (.val (.int .i64 0)), some (46, true), []⟩,
 ⟨(some 51), .pick (.tmp 46) (.tmp 50) (.val (.bool false)), none, []⟩,
 ⟨(some 52), .mv (.tmp 51), none, []⟩,
 ⟨(some 53), .bld [(.slice .full 0 []), (.int .i64 0), (.slice .full 0 []), (.int .i64 0), (.int .i64 0), (.slice .full 0 [])] [], some (52, true), []⟩,
 ⟨(some 54), .callS 23 [(.tmp 53)], some (52, true), []⟩,
 ⟨(some 55), .len (.tmp 54), some (52, true), []⟩,
 ⟨(some 56), .bin .eql (.tmp 55) (.val (.int .i64 0)), some (52, true), []⟩,
 ⟨(some 57), .pick (.tmp 52) (.tmp 56) (.val (.bool false)), none, []⟩,
 ⟨(some 58), .mv (.tmp 57), none, []⟩,
 ⟨(some 59), .ld (some 6) (.tmp 3), some (58, true), []⟩,
 ⟨(some 60), .callS 17 [(.tmp 59)], some (58, true), []⟩,
 ⟨(some 61), .pick (.tmp 58) (.tmp 60) (.val (.bool false)), none, []⟩,
 ⟨(some 0), .mv (.tmp 61), none, []⟩])
 .ret)))))
def c_ridgewaylaw08_awake : AF := ⟨b_ridgewaylaw08_awake, 62, [.tmp 0]⟩
theorem p_ridgewaylaw08_awake : prepFunc Try.prog 11 = some c_ridgewaylaw08_awake ∧ hasBody Try.prog 11 = true := ⟨by kernel_rfl, by kernel_rfl⟩
def b_ridgewayref08_Few : AC :=
 (.seq
 (.reg [
 ⟨(some 1), .box 27 6 (.tmp 0), none, []⟩,
 ⟨(some 2), .mv (.val (.bool false)), none, []⟩])
 (.seq
 (.reg [
 ⟨(some 3), .off 0 (.tmp 1), none, []⟩,
 ⟨(some 4), .ld none (.tmp 3), none, []⟩,
 ⟨(some 5), .len (.tmp 4), none, []⟩,
 ⟨(some 6), .bin .leq (.tmp 5) (.val (.int .i64 40)), none, []⟩,
 ⟨(some 7), .mv (.tmp 6), none, []⟩,
 ⟨(some 8), .off 5 (.tmp 1), some (7, true), []⟩,
 ⟨(some 9), .ld none (.tmp 8), some (7, true), []⟩,
 ⟨(some 10), .len (.tmp 9), some (7, true), []⟩,
 ⟨(some 11), .bin .leq (.tmp 10) (.val (.int .i64 40)), some (7, true), []⟩,
 ⟨(some 12), .pick (.tmp 7) (.tmp 11) (.val (.bool false)), none, []⟩,
 ⟨(some 13), .mv (.tmp 12), none, []⟩,
 ⟨(some 14), .off 1 (.tmp 1), some (13, true), []⟩,
 ⟨(some 15), .off 1 (.tmp 14), some (13, true), []⟩,
 ⟨(some 16), .ld none (.tmp 15), some (13, true), []⟩,
 ⟨(some 17), .len (.tmp 16), some (13, true), []⟩,
 ⟨(some 18), .bin .leq (.tmp 17) (.val (.int .i64 300)), some (13, true), []⟩,
 ⟨(some 19), .pick (.tmp 13) (.tmp 18) (.val (.bool false)), none, []⟩,
 ⟨(some 2), .mv (.tmp 19), none, []⟩])
 .ret))
def c_ridgewayref08_Few : AF := ⟨b_ridgewayref08_Few, 20, [.tmp 2]⟩
theorem p_ridgewayref08_Few : prepFunc Try.prog 12 = some c_ridgewayref08_Few ∧ hasBody Try.prog 12 = true := ⟨by kernel_rfl, by kernel_rfl⟩
def b_update_Get : AC :=
 (.seq
 (.reg [
 ⟨(some 1), .box 30 2 (.tmp 0), none, []⟩,
 ⟨(some 2), .box 27 6 (.val (.agg [(.slice .full 0 []), (.int .i64 0), (.slice .full 0 []), (.int .i64 0), (.int .i64 0), (.slice .full 0 [])])), none, []⟩,
 ⟨(some 3), .box 34 3 (.val (.agg [(.int .i64 0), (.int .i64 0), (.slice .full 0 [])])), none, []⟩])
 (.seq
 (.seq
 (.reg [
 ⟨(some 17), .off 0 (.tmp 1), none, []⟩,
 ⟨(some 18), .ld none (.tmp 17), none, []⟩,
 ⟨(some 19), .bin .neq (.tmp 18) (.val (.int .i64 2)), none, []⟩,
 ⟨(some 20), .mv (.tmp 19), none, []⟩,
 ⟨(some 21), .ld (some 2) (.tmp 1), some (20, false), []⟩,
 ⟨(some 22), .callS 25 [(.tmp 21)], some (20, false), []⟩,
 ⟨(some 23), .un .not (.tmp 22), some (20, false), []⟩,
 ⟨(some 24), .pick (.tmp 20) (.val (.bool true)) (.tmp 23), none, []⟩])
 (.cond (.tmp 24)
 (.seq
 (.reg [
 ⟨(some 25), .bld [(.slice .full 0 []), (.int .i64 0), (.slice .full 0 []), (.int .i64 0), (.int .i64 0), (.slice .full 0 [])] [], none, []⟩,
 ⟨(some 26), .bld [(.int .i64 0), (.int .i64 0), (.slice .full 0 [])] [(0, 1, (.val (.int .i64 3))), (1, 1, (.val (.int .i64 1)))], none, []⟩,
 ⟨none, .st 6 (.tmp 2) (.tmp 25), none, []⟩,
 ⟨none, .st 3 (.tmp 3) (.tmp 26), none, []⟩])
 .ret)
 .skip))
 (.seq
 (.reg [
 ⟨(some 28), .off 1 (.tmp 1), none, []⟩,
 ⟨(some 29), .ld none (.tmp 28), none, []⟩,
 ⟨(some 30), .callS 34 [(.tmp 29)], none, []⟩,
 ⟨(some 27), .mv (.tmp 30), none, []⟩,
 ⟨(some 31), .ext (.tmp 27) 0, none, []⟩,
 ⟨(some 32), .ext (.tmp 27) 1, none, []⟩,
 ⟨(some 33), .ext (.tmp 27) 2, none, []⟩,
 ⟨(some 4), .mv (.tmp 31), none, []⟩,
 ⟨(some 5), .mv (.tmp 32), none, []⟩,
 ⟨(some 6), .mv (.tmp 33), none, []⟩])
 (.seq
 (.reg [
 ⟨(some 35), .mv (.tmp 5), none, []⟩,
 ⟨(some 36), .callS 34 [(.tmp 35)], none, []⟩,
 ⟨(some 34), .mv (.tmp 36), none, []⟩,
 ⟨(some 37), .ext (.tmp 34) 0, none, []⟩,
 ⟨(some 38), .ext (.tmp 34) 1, none, []⟩,
 ⟨(some 39), .ext (.tmp 34) 2, none, []⟩,
 ⟨(some 7), .mv (.tmp 37), none, []⟩,
 ⟨(some 8), .mv (.tmp 38), none, []⟩,
 ⟨(some 9), .mv (.tmp 39), none, []⟩])
 (.seq
 (.seq
 (.reg [
 ⟨(some 40), .mv (.tmp 6), none, []⟩,
 ⟨(some 41), .un .not (.tmp 40), none, []⟩,
 ⟨(some 42), .mv (.tmp 41), none, []⟩,
 ⟨(some 43), .mv (.tmp 9), some (42, false), []⟩,
 ⟨(some 44), .un .not (.tmp 43), some (42, false), []⟩,
 ⟨(some 45), .pick (.tmp 42) (.val (.bool true)) (.tmp 44), none, []⟩])
 (.cond (.tmp 45)
 (.seq
 (.reg [
 ⟨(some 46), .bld [(.slice .full 0 []), (.int .i64 0), (.slice .full 0 []), (.int .i64 0), (.int .i64 0), (.slice .full 0 [])] [], none, []⟩,
 ⟨(some 47), .bld [(.int .i64 0), (.int .i64 0), (.slice .full 0 [])] [(0, 1, (.val (.int .i64 3))), (1, 1, (.val (.int .i64 1)))], none, []⟩,
 ⟨none, .st 6 (.tmp 2) (.tmp 46), none, []⟩,
 ⟨none, .st 3 (.tmp 3) (.tmp 47), none, []⟩])
 .ret)
 .skip))
 (.seq
 (.reg [
 ⟨(some 49), .mv (.tmp 4), none, []⟩,
 ⟨(some 50), .callS 35 [(.tmp 49)], none, []⟩,
 ⟨(some 48), .mv (.tmp 50), none, []⟩,
 ⟨(some 51), .ext (.tmp 48) 0, none, []⟩,
 ⟨(some 52), .ext (.tmp 48) 1, none, []⟩,
 ⟨(some 10), .mv (.tmp 51), none, []⟩,
 ⟨(some 6), .mv (.tmp 52), none, []⟩])
 (.seq
 (.reg [
 ⟨(some 54), .mv (.tmp 8), none, []⟩,
 ⟨(some 55), .callS 35 [(.tmp 54)], none, []⟩,
 ⟨(some 53), .mv (.tmp 55), none, []⟩,
 ⟨(some 56), .ext (.tmp 53) 0, none, []⟩,
 ⟨(some 57), .ext (.tmp 53) 1, none, []⟩,
 ⟨(some 11), .mv (.tmp 56), none, []⟩,
 ⟨(some 9), .mv (.tmp 57), none, []⟩])
 (.seq
 (.seq
 (.reg [
 ⟨(some 58), .mv (.tmp 6), none, []⟩,
 ⟨(some 59), .un .not (.tmp 58), none, []⟩,
 ⟨(some 60), .mv (.tmp 59), none, []⟩,
 ⟨(some 61), .mv (.tmp 9), some (60, false), []⟩,
 ⟨(some 62), .un .not (.tmp 61), some (60, false), []⟩,
 ⟨(some 63), .pick (.tmp 60) (.val (.bool true)) (.tmp 62), none, []⟩])
 (.cond (.tmp 63)
 (.seq
 (.reg [
 ⟨(some 64), .bld [(.slice .full 0 []), (.int .i64 0), (.slice .full 0 []), (.int .i64 0), (.int .i64 0), (.slice .full 0 [])] [], none, []⟩,
 ⟨(some 65), .bld [(.int .i64 0), (.int .i64 0), (.slice .full 0 [])] [(0, 1, (.val (.int .i64 3))), (1, 1, (.val (.int .i64 10)))], none, []⟩,
 ⟨none, .st 6 (.tmp 2) (.tmp 64), none, []⟩,
 ⟨none, .st 3 (.tmp 3) (.tmp 65), none, []⟩])
 .ret)
 .skip))
 (.seq
 (.reg [
 ⟨(some 67), .mv (.tmp 7), none, []⟩,
 ⟨(some 68), .callS 31 [(.tmp 67)], none, []⟩,
 ⟨(some 66), .mv (.tmp 68), none, []⟩,
 ⟨(some 69), .ext (.tmp 66) 0, none, []⟩,
 ⟨(some 70), .ext (.tmp 66) 1, none, []⟩,
 ⟨(some 12), .mv (.tmp 69), none, []⟩,
 ⟨(some 13), .mv (.tmp 70), none, []⟩])
 (.seq
 (.reg [
 ⟨(some 71), .bld [(.int .i64 0), (.slice .full 0 []), (.int .i64 0), (.int .i64 0)] [], none, []⟩,
 ⟨(some 72), .bld [(.int .i64 0), (.int .i64 0), (.slice .full 0 [])] [], none, []⟩,
 ⟨(some 14), .box 25 4 (.val (.agg [(.int .i64 0), (.slice .full 0 []), (.int .i64 0), (.int .i64 0)])), none, []⟩,
 ⟨(some 16), .box 34 3 (.val (.agg [(.int .i64 0), (.int .i64 0), (.slice .full 0 [])])), none, []⟩,
 ⟨none, .st 4 (.tmp 14) (.tmp 71), none, []⟩,
 ⟨(some 15), .mv (.val (.int .i64 1)), none, []⟩,
 ⟨none, .st 3 (.tmp 16) (.tmp 72), none, []⟩])
 (.seq
 (.seq
 (.reg [
 ⟨(some 73), .mv (.tmp 13), none, []⟩])
 (.cond (.tmp 73)
 (.reg [
 ⟨(some 75), .mv (.tmp 12), none, []⟩,
 ⟨(some 76), .callS 32 [(.tmp 75)], none, []⟩,
 ⟨(some 74), .mv (.tmp 76), none, []⟩,
 ⟨(some 77), .ext (.tmp 74) 0, none, []⟩,
 ⟨(some 78), .ext (.tmp 74) 1, none, []⟩,
 ⟨(some 79), .ext (.tmp 74) 2, none, []⟩,
 ⟨none, .st 4 (.tmp 14) (.tmp 77), none, []⟩,
 ⟨(some 15), .mv (.tmp 78), none, []⟩,
 ⟨none, .st 3 (.tmp 16) (.tmp 79), none, []⟩])
 .skip))
 (.seq
 (.block 0
 (.seq
 (.reg [
 ⟨(some 81), .off 0 (.tmp 16), none, []⟩,
 ⟨(some 82), .ld none (.tmp 81), none, []⟩,
 ⟨(some 83), .bin .neq (.tmp 82) (.val (.int .i64 0)), none, []⟩,
 ⟨(some 80), .mv (.tmp 83), none, []⟩])
 (.cond (.tmp 80)
 (.seq
 (.reg [
 ⟨(some 84), .bld [(.slice .full 0 []), (.int .i64 0), (.slice .full 0 []), (.int .i64 0), (.int .i64 0), (.slice .full 0 [])] [], none, []⟩,
 ⟨(some 85), .ld (some 3) (.tmp 16), none, []⟩,
 ⟨none, .st 6 (.tmp 2) (.tmp 84), none, [((some 3), (.tmp 16), 85)]⟩,
 ⟨none, .st 3 (.tmp 3) (.tmp 85), none, []⟩])
 .ret)
 (.seq
 (.reg [
 ⟨(some 87), .mv (.tmp 11), none, []⟩,
 ⟨(some 88), .len (.tmp 87), none, []⟩,
 ⟨(some 89), .bin .eql (.tmp 88) (.val (.int .i64 0)), none, []⟩,
 ⟨(some 86), .mv (.tmp 89), none, []⟩])
 (.cond (.tmp 86)
 (.seq
 (.reg [
 ⟨(some 90), .mv (.tmp 10), none, []⟩,
 ⟨(some 91), .bld [(.slice .full 0 []), (.int .i64 0), (.slice .full 0 []), (.int .i64 0), (.int .i64 0), (.slice .full 0 [])] [(0, 1, (.tmp 90))], none, []⟩,
 ⟨(some 92), .bld [(.int .i64 0), (.int .i64 0), (.slice .full 0 [])] [], none, []⟩,
 ⟨none, .st 6 (.tmp 2) (.tmp 91), none, []⟩,
 ⟨none, .st 3 (.tmp 3) (.tmp 92), none, []⟩])
 .ret)
 (.seq
 (.reg [
 ⟨(some 94), .mv (.tmp 15), none, []⟩,
 ⟨(some 95), .bin .neq (.tmp 94) (.val (.int .i64 0)), none, []⟩,
 ⟨(some 93), .mv (.tmp 95), none, []⟩])
 (.cond (.tmp 93)
 (.seq
 (.reg [
 ⟨(some 96), .mv (.tmp 10), none, []⟩,
 ⟨(some 97), .mv (.tmp 11), none, []⟩,
 ⟨(some 98), .app 48 2 16 (.tmp 96) (.tmp 97), none, []⟩,
 ⟨(some 99), .bld [(.slice .full 0 []), (.int .i64 0), (.slice .full 0 []), (.int .i64 0), (.int .i64 0), (.slice .full 0 [])] [(0, 1, (.tmp 98))], none, []⟩,
 ⟨(some 100), .bld [(.int .i64 0), (.int .i64 0), (.slice .full 0 [])] [], none, []⟩,
 ⟨none, .st 6 (.tmp 2) (.tmp 99), none, []⟩,
 ⟨none, .st 3 (.tmp 3) (.tmp 100), none, []⟩])
 .ret)
 .skip)))))))
 (.seq
 (.reg [
 ⟨(some 101), .mv (.tmp 10), none, []⟩,
 ⟨(some 102), .ld (some 4) (.tmp 14), none, []⟩,
 ⟨(some 103), .mv (.tmp 11), none, []⟩,
 ⟨(some 104), .bld [(.slice .full 0 []), (.int .i64 0), (.slice .full 0 []), (.int .i64 0), (.int .i64 0), (.slice .full 0 [])] [(0, 1, (.tmp 101)), (1, 4, (.tmp 102)), (5, 1, (.tmp 103))], none, []⟩,
 ⟨(some 105), .bld [(.int .i64 0), (.int .i64 0), (.slice .full 0 [])] [], none, []⟩,
 ⟨none, .st 6 (.tmp 2) (.tmp 104), none, []⟩,
 ⟨none, .st 3 (.tmp 3) (.tmp 105), none, []⟩])
 .ret)))))))))))))
def c_update_Get : AF := ⟨b_update_Get, 106, [.cell 2 (some 6), .cell 3 (some 3)]⟩
theorem p_update_Get : prepFunc Try.prog 13 = some c_update_Get ∧ hasBody Try.prog 13 = true := ⟨by kernel_rfl, by kernel_rfl⟩
def b_ridgewayref08_Get : AC :=
 (.seq
 (.reg [
 ⟨(some 1), .box 30 2 (.tmp 0), none, []⟩,
 ⟨(some 2), .box 27 6 (.val (.agg [(.slice .full 0 []), (.int .i64 0), (.slice .full 0 []), (.int .i64 0), (.int .i64 0), (.slice .full 0 [])])), none, []⟩,
 ⟨(some 3), .box 34 3 (.val (.agg [(.int .i64 0), (.int .i64 0), (.slice .full 0 [])])), none, []⟩])
 (.seq
 (.seq
 (.reg [
 ⟨(some 19), .off 0 (.tmp 1), none, []⟩,
 ⟨(some 20), .ld none (.tmp 19), none, []⟩,
 ⟨(some 21), .bin .neq (.tmp 20) (.val (.int .i64 2)), none, []⟩,
 ⟨(some 22), .mv (.tmp 21), none, []⟩,
 ⟨(some 23), .ld (some 2) (.tmp 1), some (22, false), []⟩,
 ⟨(some 24), .callS 36 [(.tmp 23)], some (22, false), []⟩,
 ⟨(some 25), .un .not (.tmp 24), some (22, false), []⟩,
 ⟨(some 26), .pick (.tmp 22) (.val (.bool true)) (.tmp 25), none, []⟩])
 (.cond (.tmp 26)
 (.seq
 (.reg [
 ⟨(some 27), .callS 37 [(.val (.int .i64 1))], none, []⟩,
 ⟨(some 28), .ext (.tmp 27) 0, none, []⟩,
 ⟨(some 29), .ext (.tmp 27) 1, none, []⟩,
 ⟨none, .st 6 (.tmp 2) (.tmp 28), none, []⟩,
 ⟨none, .st 3 (.tmp 3) (.tmp 29), none, []⟩])
 .ret)
 .skip))
 (.seq
 (.reg [
 ⟨(some 31), .off 1 (.tmp 1), none, []⟩,
 ⟨(some 32), .ld none (.tmp 31), none, []⟩,
 ⟨(some 33), .callS 38 [(.tmp 32)], none, []⟩,
 ⟨(some 30), .mv (.tmp 33), none, []⟩,
 ⟨(some 34), .ext (.tmp 30) 0, none, []⟩,
 ⟨(some 35), .ext (.tmp 30) 1, none, []⟩,
 ⟨(some 36), .ext (.tmp 30) 2, none, []⟩,
 ⟨(some 4), .mv (.tmp 34), none, []⟩,
 ⟨(some 5), .mv (.tmp 35), none, []⟩,
 ⟨(some 6), .mv (.tmp 36), none, []⟩])
 (.seq
 (.seq
 (.reg [
 ⟨(some 37), .mv (.tmp 6), none, []⟩,
 ⟨(some 38), .un .not (.tmp 37), none, []⟩])
 (.cond (.tmp 38)
 (.seq
 (.reg [
 ⟨(some 39), .callS 37 [(.val (.int .i64 1))], none, []⟩,
 ⟨(some 40), .ext (.tmp 39) 0, none, []⟩,
 ⟨(some 41), .ext (.tmp 39) 1, none, []⟩,
 ⟨none, .st 6 (.tmp 2) (.tmp 40), none, []⟩,
 ⟨none, .st 3 (.tmp 3) (.tmp 41), none, []⟩])
 .ret)
 .skip))
 (.seq
 (.reg [
 ⟨(some 43), .mv (.tmp 5), none, []⟩,
 ⟨(some 44), .callS 38 [(.tmp 43)], none, []⟩,
 ⟨(some 42), .mv (.tmp 44), none, []⟩,
 ⟨(some 45), .ext (.tmp 42) 0, none, []⟩,
 ⟨(some 46), .ext (.tmp 42) 1, none, []⟩,
 ⟨(some 47), .ext (.tmp 42) 2, none, []⟩,
 ⟨(some 7), .mv (.tmp 45), none, []⟩,
 ⟨(some 8), .mv (.tmp 46), none, []⟩,
 ⟨(some 9), .mv (.tmp 47), none, []⟩])
 (.seq
 (.seq
 (.reg [
 ⟨(some 48), .mv (.tmp 9), none, []⟩,
 ⟨(some 49), .un .not (.tmp 48), none, []⟩])
 (.cond (.tmp 49)
 (.seq
 (.reg [
 ⟨(some 50), .callS 37 [(.val (.int .i64 1))], none, []⟩,
 ⟨(some 51), .ext (.tmp 50) 0, none, []⟩,
 ⟨(some 52), .ext (.tmp 50) 1, none, []⟩,
 ⟨none, .st 6 (.tmp 2) (.tmp 51), none, []⟩,
 ⟨none, .st 3 (.tmp 3) (.tmp 52), none, []⟩])
 .ret)
 .skip))
 (.seq
 (.reg [
 ⟨(some 54), .mv (.tmp 4), none, []⟩,
 ⟨(some 55), .callS 39 [(.tmp 54)], none, []⟩,
 ⟨(some 53), .mv (.tmp 55), none, []⟩,
 ⟨(some 56), .ext (.tmp 53) 0, none, []⟩,
 ⟨(some 57), .ext (.tmp 53) 1, none, []⟩,
 ⟨(some 10), .mv (.tmp 56), none, []⟩,
 ⟨(some 11), .mv (.tmp 57), none, []⟩])
 (.seq
 (.reg [
 ⟨(some 59), .mv (.tmp 8), none, []⟩,
 ⟨(some 60), .callS 39 [(.tmp 59)], none, []⟩,
 ⟨(some 58), .mv (.tmp 60), none, []⟩,
 ⟨(some 61), .ext (.tmp 58) 0, none, []⟩,
 ⟨(some 62), .ext (.tmp 58) 1, none, []⟩,
 ⟨(some 12), .mv (.tmp 61), none, []⟩,
 ⟨(some 13), .mv (.tmp 62), none, []⟩])
 (.seq
 (.seq
 (.reg [
 ⟨(some 63), .mv (.tmp 11), none, []⟩,
 ⟨(some 64), .un .not (.tmp 63), none, []⟩,
 ⟨(some 65), .mv (.tmp 64), none, []⟩,
 ⟨(some 66), .mv (.tmp 13), some (65, false), []⟩,
 ⟨(some 67), .un .not (.tmp 66), some (65, false), []⟩,
 ⟨(some 68), .pick (.tmp 65) (.val (.bool true)) (.tmp 67), none, []⟩])
 (.cond (.tmp 68)
 (.seq
 (.reg [
 ⟨(some 69), .callS 37 [(.val (.int .i64 10))], none, []⟩,
 ⟨(some 70), .ext (.tmp 69) 0, none, []⟩,
 ⟨(some 71), .ext (.tmp 69) 1, none, []⟩,
 ⟨none, .st 6 (.tmp 2) (.tmp 70), none, []⟩,
 ⟨none, .st 3 (.tmp 3) (.tmp 71), none, []⟩])
 .ret)
 .skip))
 (.seq
 (.reg [
 ⟨(some 73), .mv (.tmp 7), none, []⟩,
 ⟨(some 74), .callS 40 [(.tmp 73)], none, []⟩,
 ⟨(some 72), .mv (.tmp 74), none, []⟩,
 ⟨(some 75), .ext (.tmp 72) 0, none, []⟩,
 ⟨(some 76), .ext (.tmp 72) 1, none, []⟩,
 ⟨(some 14), .mv (.tmp 75), none, []⟩,
 ⟨(some 15), .mv (.tmp 76), none, []⟩])
 (.seq
 (.reg [
 ⟨(some 78), .mv (.tmp 14), none, []⟩,
 ⟨(some 79), .callS 41 [(.tmp 78)], none, []⟩,
 ⟨(some 77), .mv (.tmp 79), none, []⟩,
 ⟨(some 80), .ext (.tmp 77) 0, none, []⟩,
 ⟨(some 81), .ext (.tmp 77) 1, none, []⟩,
 ⟨(some 82), .ext (.tmp 77) 2, none, []⟩,
 ⟨(some 16), .box 25 4 (.val (.agg [(.int .i64 0), (.slice .full 0 []), (.int .i64 0), (.int .i64 0)])), none, []⟩,
 ⟨(some 18), .box 34 3 (.val (.agg [(.int .i64 0), (.int .i64 0), (.slice .full 0 [])])), none, []⟩,
 ⟨none, .st 4 (.tmp 16) (.tmp 80), none, []⟩,
 ⟨(some 17), .mv (.tmp 81), none, []⟩,
 ⟨none, .st 3 (.tmp 18) (.tmp 82), none, []⟩])
 (.seq
 (.seq
 (.reg [
 ⟨(some 83), .mv (.tmp 15), none, []⟩,
 ⟨(some 84), .mv (.tmp 83), none, []⟩,
 ⟨(some 85), .mv (.tmp 17), some (84, true), []⟩,
 ⟨(some 86), .bin .eql (.tmp 85) (.val (.int .i64 2)), some (84, true), []⟩,
 ⟨(some 87), .pick (.tmp 84) (.tmp 86) (.val (.bool false)), none, []⟩])
 (.cond (.tmp 87)
 (.seq
 (.reg [
 ⟨(some 88), .bld [(.slice .full 0 []), (.int .i64 0), (.slice .full 0 []), (.int .i64 0), (.int .i64 0), (.slice .full 0 [])] [], none, []⟩,
 ⟨(some 89), .ld (some 3) (.tmp 18), none, []⟩,
 ⟨none, .st 6 (.tmp 2) (.tmp 88), none, [((some 3), (.tmp 18), 89)]⟩,
 ⟨none, .st 3 (.tmp 3) (.tmp 89), none, []⟩])
 .ret)
 .skip))
 (.seq
 (.seq
 (.reg [
 ⟨(some 90), .mv (.tmp 12), none, []⟩,
 ⟨(some 91), .len (.tmp 90), none, []⟩,
 ⟨(some 92), .bin .eql (.tmp 91) (.val (.int .i64 0)), none, []⟩])
 (.cond (.tmp 92)
 (.seq
 (.reg [
 ⟨(some 93), .mv (.tmp 10), none, []⟩,
 ⟨(some 94), .bld [(.slice .full 0 []), (.int .i64 0), (.slice .full 0 []), (.int .i64 0), (.int .i64 0), (.slice .full 0 [])] [(0, 1, (.tmp 93))], none, []⟩,
 ⟨(some 95), .bld [(.int .i64 0), (.int .i64 0), (.slice .full 0 [])] [], none, []⟩,
 ⟨none, .st 6 (.tmp 2) (.tmp 94), none, []⟩,
 ⟨none, .st 3 (.tmp 3) (.tmp 95), none, []⟩])
 .ret)
 .skip))
 (.seq
 (.seq
 (.reg [
 ⟨(some 96), .mv (.tmp 15), none, []⟩,
 ⟨(some 97), .un .not (.tmp 96), none, []⟩,
 ⟨(some 98), .mv (.tmp 97), none, []⟩,
 ⟨(some 99), .mv (.tmp 17), some (98, false), []⟩,
 ⟨(some 100), .bin .eql (.tmp 99) (.val (.int .i64 1)), some (98, false), []⟩,
 ⟨(some 101), .pick (.tmp 98) (.val (.bool true)) (.tmp 100), none, []⟩])
 (.cond (.tmp 101)
 (.seq
 (.reg [
 ⟨(some 102), .mv (.tmp 10), none, []⟩,
 ⟨(some 103), .mv (.tmp 12), none, []⟩,
 ⟨(some 104), .app 48 2 16 (.tmp 102) (.tmp 103), none, []⟩,
 ⟨(some 10), .mv (.tmp 104), none, []⟩])
 (.seq
 (.reg [
 ⟨(some 105), .mv (.tmp 10), none, []⟩,
 ⟨(some 106), .bld [(.slice .full 0 []), (.int .i64 0), (.slice .full 0 []), (.int .i64 0), (.int .i64 0), (.slice .full 0 [])] [(0, 1, (.tmp 105))], none, []⟩,
 ⟨(some 107), .bld [(.int .i64 0), (.int .i64 0), (.slice .full 0 [])] [], none, []⟩,
 ⟨none, .st 6 (.tmp 2) (.tmp 106), none, []⟩,
 ⟨none, .st 3 (.tmp 3) (.tmp 107), none, []⟩])
 .ret))
 .skip))
 (.seq
 (.reg [
 ⟨(some 108), .mv (.tmp 10), none, []⟩,
 ⟨(some 109), .ld (some 4) (.tmp 16), none, []⟩,
 ⟨(some 110), .mv (.tmp 12), none, []⟩,
 ⟨(some 111), .bld [(.slice .full 0 []), (.int .i64 0), (.slice .full 0 []), (.int .i64 0), (.int .i64 0), (.slice .full 0 [])] [(0, 1, (.tmp 108)), (1, 4, (.tmp 109)), (5, 1, (.tmp 110))], none, []⟩,
 ⟨(some 112), .bld [(.int .i64 0), (.int .i64 0), (.slice .full 0 [])] [], none, []⟩,
 ⟨none, .st 6 (.tmp 2) (.tmp 111), none, []⟩,
 ⟨none, .st 3 (.tmp 3) (.tmp 112), none, []⟩])
 .ret)))))))))))))))
def c_ridgewayref08_Get : AF := ⟨b_ridgewayref08_Get, 113, [.cell 2 (some 6), .cell 3 (some 3)]⟩
theorem p_ridgewayref08_Get : prepFunc Try.prog 14 = some c_ridgewayref08_Get ∧ hasBody Try.prog 14 = true := ⟨by kernel_rfl, by kernel_rfl⟩
def b_ridgewayref08_Same : AC :=
 (.seq
 (.reg [
 ⟨(some 2), .box 27 6 (.tmp 0), none, []⟩,
 ⟨(some 3), .box 27 6 (.tmp 1), none, []⟩,
 ⟨(some 4), .mv (.val (.bool false)), none, []⟩])
 (.seq
 (.reg [
 ⟨(some 5), .off 0 (.tmp 2), none, []⟩,
 ⟨(some 6), .ld none (.tmp 5), none, []⟩,
 ⟨(some 7), .off 0 (.tmp 3), none, []⟩,
 ⟨(some 8), .ld none (.tmp 7), none, []⟩,
 ⟨(some 9), .callS 33 [(.tmp 6), (.tmp 8)], none, []⟩,
 ⟨(some 10), .mv (.tmp 9), none, []⟩,
 ⟨(some 11), .off 1 (.tmp 2), some (10, true), []⟩,
 ⟨(some 12), .ld (some 4) (.tmp 11), some (10, true), []⟩,
 ⟨(some 13), .off 1 (.tmp 3), some (10, true), []⟩,
 ⟨(some 14), .ld (some 4) (.tmp 13), some (10, true), []⟩,
 ⟨(some 15), .callS 27 [(.tmp 12), (.tmp 14)], some (10, true), []⟩,
 ⟨(some 16), .pick (.tmp 10) (.tmp 15) (.val (.bool false)), none, []⟩,
 ⟨(some 17), .mv (.tmp 16), none, []⟩,
 ⟨(some 18), .off 5 (.tmp 2), some (17, true), []⟩,
 ⟨(some 19), .ld none (.tmp 18), some (17, true), []⟩,
 ⟨(some 20), .off 5 (.tmp 3), some (17, true), []⟩,
 ⟨(some 21), .ld none (.tmp 20), some (17, true), []⟩,
 ⟨(some 22), .callS 33 [(.tmp 19), (.tmp 21)], some (17, true), []⟩,
 ⟨(some 23), .pick (.tmp 17) (.tmp 22) (.val (.bool false)), none, []⟩,
 ⟨(some 4), .mv (.tmp 23), none, []⟩])
 .ret))
def c_ridgewayref08_Same : AF := ⟨b_ridgewayref08_Same, 24, [.tmp 4]⟩
theorem p_ridgewayref08_Same : prepFunc Try.prog 15 = some c_ridgewayref08_Same ∧ hasBody Try.prog 15 = true := ⟨by kernel_rfl, by kernel_rfl⟩
def b_ridgewayref03_SameNote : AC :=
 (.seq
 (.reg [
 ⟨(some 2), .box 34 3 (.tmp 0), none, []⟩,
 ⟨(some 3), .box 34 3 (.tmp 1), none, []⟩,
 ⟨(some 4), .mv (.val (.bool false)), none, []⟩])
 (.seq
 (.reg [
 ⟨(some 5), .off 0 (.tmp 2), none, []⟩,
 ⟨(some 6), .ld none (.tmp 5), none, []⟩,
 ⟨(some 7), .off 0 (.tmp 3), none, []⟩,
 ⟨(some 8), .ld none (.tmp 7), none, []⟩,
 ⟨(some 9), .bin .eql (.tmp 6) (.tmp 8), none, []⟩,
 ⟨(some 10), .mv (.tmp 9), none, []⟩,
 ⟨(some 11), .off 1 (.tmp 2), some (10, true), []⟩,
 ⟨(some 12), .ld none (.tmp 11), some (10, true), []⟩,
 ⟨(some 13), .off 1 (.tmp 3), some (10, true), []⟩,
 ⟨(some 14), .ld none (.tmp 13), some (10, true), []⟩,
 ⟨(some 15), .bin .eql (.tmp 12) (.tmp 14), some (10, true), []⟩,
 ⟨(some 16), .pick (.tmp 10) (.tmp 15) (.val (.bool false)), none, []⟩,
 ⟨(some 17), .mv (.tmp 16), none, []⟩,
 ⟨(some 18), .off 2 (.tmp 2), some (17, true), []⟩,
 ⟨(some 19), .ld none (.tmp 18), some (17, true), []⟩,
 ⟨(some 20), .b2s (.tmp 19), some (17, true), []⟩,
 ⟨(some 21), .off 2 (.tmp 3), some (17, true), []⟩,
 ⟨(some 22), .ld none (.tmp 21), some (17, true), []⟩,
 ⟨(some 23), .b2s (.tmp 22), some (17, true), []⟩,
 ⟨(some 24), .bin .eql (.tmp 20) (.tmp 23), some (17, true), []⟩,
 ⟨(some 25), .pick (.tmp 17) (.tmp 24) (.val (.bool false)), none, []⟩,
 ⟨(some 4), .mv (.tmp 25), none, []⟩])
 .ret))
def c_ridgewayref03_SameNote : AF := ⟨b_ridgewayref03_SameNote, 26, [.tmp 4]⟩
theorem p_ridgewayref03_SameNote : prepFunc Try.prog 16 = some c_ridgewayref03_SameNote ∧ hasBody Try.prog 16 = true := ⟨by kernel_rfl, by kernel_rfl⟩
def b_update_Sane : AC :=
 (.seq
 (.reg [
 ⟨(some 1), .box 27 6 (.tmp 0), none, []⟩,
 ⟨(some 2), .mv (.val (.bool false)), none, []⟩])
 (.seq
 (.seq
 (.reg [
 ⟨(some 7), .off 0 (.tmp 1), none, []⟩,
 ⟨(some 8), .ld none (.tmp 7), none, []⟩,
 ⟨(some 9), .len (.tmp 8), none, []⟩,
 ⟨(some 10), .mv (.val (.int .i64 0)), none, []⟩])
 (.block 0
 (.loop
 (.seq
 (.reg [
 ⟨(some 11), .bin .lss (.tmp 10) (.tmp 9), none, []⟩])
 (.seq
 (.cond (.tmp 11)
 .skip
 (.exit 0))
 (.seq
 (.block 1
 (.seq
 (.reg [
 ⟨(some 12), .idxA 2 (.tmp 8) (.tmp 10), none, []⟩,
 ⟨(some 13), .ld (some 2) (.tmp 12), none, []⟩,
 ⟨(some 4), .box 48 2 (.val (.agg [(.int .i64 0), (.int .i64 0)])), none, []⟩,
 ⟨none, .st 2 (.tmp 4) (.tmp 13), none, []⟩])
 (.seq
 (.reg [
 ⟨(some 14), .ld (some 2) (.tmp 4), none, []⟩,
 ⟨(some 15), .callS 26 [(.tmp 14)], none, []⟩,
 ⟨(some 16), .un .not (.tmp 15), none, []⟩])
 (.cond (.tmp 16)
 (.seq
 (.reg [
 ⟨(some 2), .mv (.val (.bool false)), none, []⟩])
 .ret)
 .skip))))
 (.reg [
 ⟨(some 17), .bin .add (.tmp 10) (.val (.int .i64 1)), none, []⟩,
 ⟨(some 10), .mv (.tmp 17), none, []⟩])))))))
 (.seq
 (.seq
 (.reg [
 ⟨(some 18), .off 5 (.tmp 1), none, []⟩,
 ⟨(some 19), .ld none (.tmp 18), none, []⟩,
 ⟨(some 20), .len (.tmp 19), none, []⟩,
 ⟨(some 21), .mv (.val (.int .i64 0)), none, []⟩])
 (.block 2
 (.loop
 (.seq
 (.reg [
 ⟨(some 22), .bin .lss (.tmp 21) (.tmp 20), none, []⟩])
 (.seq
 (.cond (.tmp 22)
 .skip
 (.exit 2))
 (.seq
 (.block 3
 (.seq
 (.reg [
 ⟨(some 23), .idxA 2 (.tmp 19) (.tmp 21), none, []⟩,
 ⟨(some 24), .ld (some 2) (.tmp 23), none, []⟩,
 ⟨(some 6), .box 48 2 (.val (.agg [(.int .i64 0), (.int .i64 0)])), none, []⟩,
 ⟨none, .st 2 (.tmp 6) (.tmp 24), none, []⟩])
 (.seq
 (.reg [
 ⟨(some 25), .ld (some 2) (.tmp 6), none, []⟩,
 ⟨(some 26), .callS 26 [(.tmp 25)], none, []⟩,
 ⟨(some 27), .un .not (.tmp 26), none, []⟩])
 (.cond (.tmp 27)
 (.seq
 (.reg [
 ⟨(some 2), .mv (.val (.bool false)), none, []⟩])
 .ret)
 .skip))))
 (.reg [
 ⟨(some 28), .bin .add (.tmp 21) (.val (.int .i64 1)), none, []⟩,
 ⟨(some 21), .mv (.tmp 28), none, []⟩])))))))
 (.seq
 (.seq
 (.reg [
 ⟨(some 29), .off 5 (.tmp 1), none, []⟩,
 ⟨(some 30), .ld none (.tmp 29), none, []⟩,
 ⟨(some 31), .len (.tmp 30), none, []⟩,
 ⟨(some 32), .bin .gtr (.tmp 31) (.val (.int .i64 0)), none, []⟩])
 (.cond (.tmp 32)
 (.seq
 (.reg [
 ⟨(some 33), .off 1 (.tmp 1), none, []⟩,
 ⟨(some 34), .ld (some 4) (.tmp 33), none, []⟩,
 ⟨(some 35), .callS 28 [(.tmp 34)], none, []⟩,
 ⟨(some 2), .mv (.tmp 35), none, []⟩])
 .ret)
 .skip))
 (.seq
 (.reg [
 ⟨(some 36), .off 1 (.tmp 1), none, []⟩,
 ⟨(some 37), .off 0 (.tmp 36), none, []⟩,
 ⟨(some 38), .ld none (.tmp 37), none, []⟩,
 ⟨(some 39), .bin .eql (.tmp 38) (.val (.int .i64 0)), none, []⟩,
 ⟨(some 40), .mv (.tmp 39), none, []⟩,
 ⟨(some 41), .off 1 (.tmp 1), some (40, true), []⟩,
 ⟨(some 42), .off 1 (.tmp 41), some (40, true), []⟩,
 ⟨(some 43), .ld none (.tmp 42), some (40, true), []⟩,
 ⟨(some 44), .len (.tmp 43), some (40, true), []⟩,
 ⟨(some 45), .bin .eql (.tmp 44) (.val (.int .i64 0)), some (40, true), []⟩,
 ⟨(some 46), .pick (.tmp 40) (.tmp 45) (.val (.bool false)), none, []⟩,
 ⟨(some 47), .mv (.tmp 46), none, []⟩,
 ⟨(some 48), .off 1 (.tmp 1), some (47, true), []⟩,
 ⟨(some 49), .off 2 (.tmp 48), some (47, true), []⟩,
 ⟨(some 50), .ld none (.tmp 49), some (47, true), []⟩,
 ⟨(some 51), .bin .eql (.tmp 50) (.val (.int .i64 0)), some (47, true), []⟩,
 ⟨(some 52), .pick (.tmp 47) (.tmp 51) (.val (.bool false)), none, []⟩,
 ⟨(some 53), .mv (.tmp 52), none, []⟩,
 ⟨(some 54), .off 1 (.tmp 1), some (53, true), []⟩,
 ⟨(some 55), .off 3 (.tmp 54), some (53, true), []⟩,
 ⟨(some 56), .ld none (.tmp 55), some (53, true), []⟩,
 ⟨(some 57), .bin .eql (.tmp 56) (.val (.int .i64 0)), some (53, true), []⟩,
 ⟨(some 58), .pick (.tmp 53) (.tmp 57) (.val (.bool false)), none, []⟩,
 ⟨(some 2), .mv (.tmp 58), none, []⟩])
 .ret)))))
def c_update_Sane : AF := ⟨b_update_Sane, 59, [.tmp 2]⟩
theorem p_update_Sane : prepFunc Try.prog 17 = some c_update_Sane ∧ hasBody Try.prog 17 = true := ⟨by kernel_rfl, by kernel_rfl⟩
def b_ridgewayref08_Sane : AC :=
 (.seq
 (.reg [
 ⟨(some 1), .box 27 6 (.tmp 0), none, []⟩,
 ⟨(some 2), .mv (.val (.bool false)), none, []⟩])
 (.seq
 (.seq
 (.reg [
 ⟨(some 3), .off 0 (.tmp 1), none, []⟩,
 ⟨(some 4), .ld none (.tmp 3), none, []⟩,
 ⟨(some 5), .callS 42 [(.tmp 4)], none, []⟩,
 ⟨(some 6), .un .not (.tmp 5), none, []⟩,
 ⟨(some 7), .mv (.tmp 6), none, []⟩,
 ⟨(some 8), .off 5 (.tmp 1), some (7, false), []⟩,
 ⟨(some 9), .ld none (.tmp 8), some (7, false), []⟩,
 ⟨(some 10), .callS 42 [(.tmp 9)], some (7, false), []⟩,
 ⟨(some 11), .un .not (.tmp 10), some (7, false), []⟩,
 ⟨(some 12), .pick (.tmp 7) (.val (.bool true)) (.tmp 11), none, []⟩])
 (.cond (.tmp 12)
 (.seq
 (.reg [
 ⟨(some 2), .mv (.val (.bool false)), none, []⟩])
 .ret)
 .skip))
 (.seq
 (.seq
 (.reg [
 ⟨(some 13), .off 5 (.tmp 1), none, []⟩,
 ⟨(some 14), .ld none (.tmp 13), none, []⟩,
 ⟨(some 15), .len (.tmp 14), none, []⟩,
 ⟨(some 16), .bin .eql (.tmp 15) (.val (.int .i64 0)), none, []⟩])
 (.cond (.tmp 16)
 (.seq
 (.reg [
 ⟨(some 17), .off 1 (.tmp 1), none, []⟩,
 ⟨(some 18), .ld (some 4) (.tmp 17), none, []⟩,
 ⟨(some 19), .bld [(.int .i64 0), (.slice .full 0 []), (.int .i64 0), (.int .i64 0)] [], none, []⟩,
 ⟨(some 20), .callS 27 [(.tmp 18), (.tmp 19)], none, []⟩,
 ⟨(some 2), .mv (.tmp 20), none, []⟩])
 .ret)
 .skip))
 (.seq
 (.reg [
 ⟨(some 21), .off 1 (.tmp 1), none, []⟩,
 ⟨(some 22), .ld (some 4) (.tmp 21), none, []⟩,
 ⟨(some 23), .callS 43 [(.tmp 22)], none, []⟩,
 ⟨(some 2), .mv (.tmp 23), none, []⟩])
 .ret))))
def c_ridgewayref08_Sane : AF := ⟨b_ridgewayref08_Sane, 24, [.tmp 2]⟩
theorem p_ridgewayref08_Sane : prepFunc Try.prog 18 = some c_ridgewayref08_Sane ∧ hasBody Try.prog 18 = true := ⟨by kernel_rfl, by kernel_rfl⟩
def b_ridgewayref03_Same : AC :=
 (.seq
 (.reg [
 ⟨(some 2), .box 30 2 (.tmp 0), none, []⟩,
 ⟨(some 3), .box 30 2 (.tmp 1), none, []⟩,
 ⟨(some 4), .mv (.val (.bool false)), none, []⟩])
 (.seq
 (.reg [
 ⟨(some 5), .off 0 (.tmp 2), none, []⟩,
 ⟨(some 6), .ld none (.tmp 5), none, []⟩,
 ⟨(some 7), .off 0 (.tmp 3), none, []⟩,
 ⟨(some 8), .ld none (.tmp 7), none, []⟩,
 ⟨(some 9), .bin .eql (.tmp 6) (.tmp 8), none, []⟩,
 ⟨(some 10), .mv (.tmp 9), none, []⟩,
 ⟨(some 11), .off 1 (.tmp 2), some (10, true), []⟩,
 ⟨(some 12), .ld none (.tmp 11), some (10, true), []⟩,
 ⟨(some 13), .b2s (.tmp 12), some (10, true), []⟩,
 ⟨(some 14), .off 1 (.tmp 3), some (10, true), []⟩,
 ⟨(some 15), .ld none (.tmp 14), some (10, true), []⟩,
 ⟨(some 16), .b2s (.tmp 15), some (10, true), []⟩,
 ⟨(some 17), .bin .eql (.tmp 13) (.tmp 16), some (10, true), []⟩,
 ⟨(some 18), .pick (.tmp 10) (.tmp 17) (.val (.bool false)), none, []⟩,
 ⟨(some 4), .mv (.tmp 18), none, []⟩])
 .ret))
def c_ridgewayref03_Same : AF := ⟨b_ridgewayref03_Same, 19, [.tmp 4]⟩
theorem p_ridgewayref03_Same : prepFunc Try.prog 19 = some c_ridgewayref03_Same ∧ hasBody Try.prog 19 = true := ⟨by kernel_rfl, by kernel_rfl⟩
def b_update_Put : AC :=
 (.seq
 (.reg [
 ⟨(some 1), .box 27 6 (.tmp 0), none, []⟩,
 ⟨(some 2), .box 30 2 (.val (.agg [(.int .i64 0), (.slice .full 0 [])])), none, []⟩])
 (.seq
 (.seq
 (.reg [
 ⟨(some 4), .ld (some 6) (.tmp 1), none, []⟩,
 ⟨(some 5), .callS 17 [(.tmp 4)], none, []⟩,
 ⟨(some 6), .un .not (.tmp 5), none, []⟩])
 (.cond (.tmp 6)
 (.seq
 (.reg [
 ⟨(some 7), .bld [(.int .i64 0), (.slice .full 0 [])] [], none, []⟩,
 ⟨none, .st 2 (.tmp 2) (.tmp 7), none, []⟩])
 .ret)
 .skip))
 (.seq
 (.reg [
 ⟨(some 8), .off 0 (.tmp 1), none, []⟩,
 ⟨(some 9), .ld none (.tmp 8), none, []⟩,
 ⟨(some 10), .call 45 [(.tmp 9)], none, []⟩,
 ⟨(some 11), .off 1 (.tmp 1), none, []⟩,
 ⟨(some 12), .ld (some 4) (.tmp 11), none, []⟩,
 ⟨(some 13), .call 46 [(.tmp 12)], none, []⟩,
 ⟨(some 14), .off 5 (.tmp 1), none, []⟩,
 ⟨(some 15), .ld none (.tmp 14), none, []⟩,
 ⟨(some 16), .call 45 [(.tmp 15)], none, []⟩,
 ⟨(some 17), .call 44 [(.tmp 10), (.tmp 13), (.tmp 16)], none, []⟩,
 ⟨(some 18), .bld [(.int .i64 0), (.slice .full 0 [])] [(0, 1, (.val (.int .i64 2))), (1, 1, (.tmp 17))], none, []⟩,
 ⟨(some 3), .box 30 2 (.val (.agg [(.int .i64 0), (.slice .full 0 [])])), none, []⟩,
 ⟨none, .st 2 (.tmp 3) (.tmp 18), none, []⟩])
 (.seq
 (.seq
 (.reg [
 ⟨(some 19), .ld (some 2) (.tmp 3), none, []⟩,
 ⟨(some 20), .callS 25 [(.tmp 19)], none, []⟩,
 ⟨(some 21), .un .not (.tmp 20), none, []⟩])
 (.cond (.tmp 21)
 (.seq
 (.reg [
 ⟨(some 22), .bld [(.int .i64 0), (.slice .full 0 [])] [], none, []⟩,
 ⟨none, .st 2 (.tmp 2) (.tmp 22), none, []⟩])
 .ret)
 .skip))
 (.seq
 (.reg [
 ⟨(some 23), .ld (some 2) (.tmp 3), none, []⟩,
 ⟨none, .st 2 (.tmp 2) (.tmp 23), none, []⟩])
 .ret)))))
def c_update_Put : AF := ⟨b_update_Put, 24, [.cell 2 (some 2)]⟩
theorem p_update_Put : prepFunc Try.prog 20 = some c_update_Put ∧ hasBody Try.prog 20 = true := ⟨by kernel_rfl, by kernel_rfl⟩
def b_ridgewayref08_Put : AC :=
 (.seq
 (.reg [
 ⟨(some 1), .box 27 6 (.tmp 0), none, []⟩,
 ⟨(some 2), .box 30 2 (.val (.agg [(.int .i64 0), (.slice .full 0 [])])), none, []⟩])
 (.seq
 (.seq
 (.reg [
 ⟨(some 9), .ld (some 6) (.tmp 1), none, []⟩,
 ⟨(some 10), .callS 18 [(.tmp 9)], none, []⟩,
 ⟨(some 11), .un .not (.tmp 10), none, []⟩])
 (.cond (.tmp 11)
 (.seq
 (.reg [
 ⟨(some 12), .bld [(.int .i64 0), (.slice .full 0 [])] [], none, []⟩,
 ⟨none, .st 2 (.tmp 2) (.tmp 12), none, []⟩])
 .ret)
 .skip))
 (.seq
 (.reg [
 ⟨(some 13), .off 0 (.tmp 1), none, []⟩,
 ⟨(some 14), .ld none (.tmp 13), none, []⟩,
 ⟨(some 15), .callS 47 [(.tmp 14)], none, []⟩,
 ⟨(some 3), .mv (.tmp 15), none, []⟩])
 (.seq
 (.reg [
 ⟨(some 16), .off 5 (.tmp 1), none, []⟩,
 ⟨(some 17), .ld none (.tmp 16), none, []⟩,
 ⟨(some 18), .callS 47 [(.tmp 17)], none, []⟩,
 ⟨(some 4), .mv (.tmp 18), none, []⟩])
 (.seq
 (.reg [
 ⟨(some 5), .mv (.val (.slice .full 0 [])), none, []⟩])
 (.seq
 (.seq
 (.reg [
 ⟨(some 19), .off 5 (.tmp 1), none, []⟩,
 ⟨(some 20), .ld none (.tmp 19), none, []⟩,
 ⟨(some 21), .len (.tmp 20), none, []⟩,
 ⟨(some 22), .bin .gtr (.tmp 21) (.val (.int .i64 0)), none, []⟩])
 (.cond (.tmp 22)
 (.seq
 (.reg [
 ⟨(some 23), .off 1 (.tmp 1), none, []⟩,
 ⟨(some 24), .ld (some 4) (.tmp 23), none, []⟩,
 ⟨(some 25), .callS 48 [(.tmp 24)], none, []⟩,
 ⟨(some 6), .mv (.tmp 25), none, []⟩])
 (.seq
 (.reg [
 ⟨(some 7), .mv (.val (.int .i64 0)), none, []⟩])
 (.block 0
 (.loop
 (.seq
 (.seq
 (.reg [
 ⟨(some 26), .mv (.tmp 7), none, []⟩,
 ⟨(some 27), .mv (.tmp 6), none, []⟩,
 ⟨(some 28), .len (.tmp 27), none, []⟩,
 ⟨(some 29), .bin .lss (.tmp 26) (.tmp 28), none, []⟩])
 (.cond (.tmp 29)
 .skip
 (.exit 0)))
 (.seq
 (.block 1
 (.reg [
 ⟨(some 32), .mv (.tmp 5), none, []⟩,
 ⟨(some 33), .mv (.tmp 6), none, []⟩,
 ⟨(some 34), .mv (.tmp 7), none, []⟩,
 ⟨(some 35), .idxA 3 (.tmp 33) (.tmp 34), none, []⟩,
 ⟨(some 36), .ld (some 3) (.tmp 35), none, []⟩,
 ⟨(some 37), .callS 49 [(.tmp 32), (.tmp 36)], none, []⟩,
 ⟨(some 5), .mv (.tmp 37), none, []⟩]))
 (.reg [
 ⟨(some 30), .mv (.tmp 7), none, []⟩,
 ⟨(some 31), .bin .add (.tmp 30) (.val (.int .i64 1)), none, []⟩,
 ⟨(some 7), .mv (.tmp 31), none, []⟩])))))))
 .skip))
 (.seq
 (.seq
 (.reg [
 ⟨(some 38), .mv (.tmp 3), none, []⟩,
 ⟨(some 39), .len (.tmp 38), none, []⟩,
 ⟨(some 40), .bin .add (.val (.int .i64 23)) (.tmp 39), none, []⟩,
 ⟨(some 41), .mv (.tmp 5), none, []⟩,
 ⟨(some 42), .len (.tmp 41), none, []⟩,
 ⟨(some 43), .bin .add (.tmp 40) (.tmp 42), none, []⟩,
 ⟨(some 44), .mv (.tmp 4), none, []⟩,
 ⟨(some 45), .len (.tmp 44), none, []⟩,
 ⟨(some 46), .bin .add (.tmp 43) (.tmp 45), none, []⟩,
 ⟨(some 47), .bin .gtr (.tmp 46) (.val (.int .i64 4096)), none, []⟩])
 (.cond (.tmp 47)
 (.seq
 (.reg [
 ⟨(some 48), .bld [(.int .i64 0), (.slice .full 0 [])] [], none, []⟩,
 ⟨none, .st 2 (.tmp 2) (.tmp 48), none, []⟩])
 .ret)
 .skip))
 (.seq
 (.reg [
 ⟨(some 49), .mv (.tmp 3), none, []⟩,
 ⟨(some 50), .len (.tmp 49), none, []⟩,
 ⟨(some 51), .callS 50 [(.val (.slice .full 0 [])), (.tmp 50), (.val (.int .i64 2))], none, []⟩,
 ⟨(some 8), .mv (.tmp 51), none, []⟩])
 (.seq
 (.reg [
 ⟨(some 52), .mv (.tmp 8), none, []⟩,
 ⟨(some 53), .mv (.tmp 3), none, []⟩,
 ⟨(some 54), .app 5 1 1 (.tmp 52) (.tmp 53), none, []⟩,
 ⟨(some 8), .mv (.tmp 54), none, []⟩])
 (.seq
 (.reg [
 ⟨(some 55), .mv (.tmp 8), none, []⟩,
 ⟨(some 56), .mv (.tmp 5), none, []⟩,
 ⟨(some 57), .len (.tmp 56), none, []⟩,
 ⟨(some 58), .callS 50 [(.tmp 55), (.tmp 57), (.val (.int .i64 2))], none, []⟩,
 ⟨(some 8), .mv (.tmp 58), none, []⟩])
 (.seq
 (.reg [
 ⟨(some 59), .mv (.tmp 8), none, []⟩,
 ⟨(some 60), .mv (.tmp 5), none, []⟩,
 ⟨(some 61), .app 5 1 1 (.tmp 59) (.tmp 60), none, []⟩,
 ⟨(some 8), .mv (.tmp 61), none, []⟩])
 (.seq
 (.reg [
 ⟨(some 62), .mv (.tmp 8), none, []⟩,
 ⟨(some 63), .mv (.tmp 4), none, []⟩,
 ⟨(some 64), .app 5 1 1 (.tmp 62) (.tmp 63), none, []⟩,
 ⟨(some 8), .mv (.tmp 64), none, []⟩])
 (.seq
 (.reg [
 ⟨(some 65), .mv (.tmp 8), none, []⟩,
 ⟨(some 66), .bld [(.int .i64 0), (.slice .full 0 [])] [(0, 1, (.val (.int .i64 2))), (1, 1, (.tmp 65))], none, []⟩,
 ⟨none, .st 2 (.tmp 2) (.tmp 66), none, []⟩])
 .ret)))))))))))))
def c_ridgewayref08_Put : AF := ⟨b_ridgewayref08_Put, 67, [.cell 2 (some 2)]⟩
theorem p_ridgewayref08_Put : prepFunc Try.prog 21 = some c_ridgewayref08_Put ∧ hasBody Try.prog 21 = true := ⟨by kernel_rfl, by kernel_rfl⟩
def b_update_Pack : AC :=
 (.seq
 (.reg [
 ⟨(some 1), .box 27 6 (.tmp 0), none, []⟩,
 ⟨(some 2), .mv (.val (.slice .full 0 [])), none, []⟩])
 (.seq
 (.seq
 (.reg [
 ⟨(some 5), .ld (some 6) (.tmp 1), none, []⟩,
 ⟨(some 6), .callS 17 [(.tmp 5)], none, []⟩,
 ⟨(some 7), .un .not (.tmp 6), none, []⟩])
 (.cond (.tmp 7)
 (.seq
 (.reg [
 ⟨(some 2), .mv (.val (.slice .full 0 [])), none, []⟩])
 .ret)
 .skip))
 (.seq
 (.reg [
 ⟨(some 8), .off 0 (.tmp 1), none, []⟩,
 ⟨(some 9), .ld none (.tmp 8), none, []⟩,
 ⟨(some 10), .callS 51 [(.tmp 9), (.val (.int .i64 0)), (.val (.fn 52 []))], none, []⟩,
 ⟨(some 3), .mv (.tmp 10), none, []⟩])
 (.seq
 (.reg [
 ⟨(some 11), .off 1 (.tmp 1), none, []⟩,
 ⟨(some 12), .ld (some 4) (.tmp 11), none, []⟩,
 ⟨(some 13), .callS 46 [(.tmp 12)], none, []⟩,
 ⟨(some 14), .len (.tmp 13), none, []⟩,
 ⟨(some 4), .mv (.tmp 14), none, []⟩])
 (.seq
 (.reg [
 ⟨(some 15), .mv (.tmp 3), none, []⟩,
 ⟨(some 16), .off 5 (.tmp 1), none, []⟩,
 ⟨(some 17), .ld none (.tmp 16), none, []⟩,
 ⟨(some 18), .mv (.tmp 4), none, []⟩,
 ⟨(some 19), .mkclo 53 [(.tmp 1)], none, []⟩,
 ⟨(some 20), .callS 51 [(.tmp 17), (.tmp 18), (.tmp 19)], none, []⟩,
 ⟨(some 21), .app 30 2 32 (.tmp 15) (.tmp 20), none, []⟩,
 ⟨(some 2), .mv (.tmp 21), none, []⟩])
 .ret)))))
def c_update_Pack : AF := ⟨b_update_Pack, 22, [.tmp 2]⟩
theorem p_update_Pack : prepFunc Try.prog 23 = some c_update_Pack ∧ hasBody Try.prog 23 = true := ⟨by kernel_rfl, by kernel_rfl⟩
def b_msg_Sane : AC :=
 (.seq
 (.reg [
 ⟨(some 1), .box 30 2 (.tmp 0), none, []⟩,
 ⟨(some 2), .mv (.val (.bool false)), none, []⟩])
 (.seq
 (.reg [
 ⟨(some 3), .off 0 (.tmp 1), none, []⟩,
 ⟨(some 4), .ld none (.tmp 3), none, []⟩,
 ⟨(some 5), .callS 55 [(.tmp 4)], none, []⟩,
 ⟨(some 6), .bin .gtr (.tmp 5) (.val (.int .i64 0)), none, []⟩,
 ⟨(some 7), .mv (.tmp 6), none, []⟩,
 ⟨(some 8), .off 0 (.tmp 1), some (7, true), []⟩,
 ⟨(some 9), .ld none (.tmp 8), some (7, true), []⟩,
 ⟨(some 10), .off 1 (.tmp 1), some (7, true), []⟩,
 ⟨(some 11), .ld none (.tmp 10), some (7, true), []⟩,
 ⟨(some 12), .len (.tmp 11), some (7, true), []⟩,
 ⟨(some 13), .bin .add (.val (.int .i64 19)) (.tmp 12), some (7, true), []⟩,
 ⟨(some 14), .callS 56 [(.tmp 9), (.tmp 13)], some (7, true), []⟩,
 ⟨(some 15), .un .not (.tmp 14), some (7, true), []⟩,
 ⟨(some 16), .pick (.tmp 7) (.tmp 15) (.val (.bool false)), none, []⟩,
 ⟨(some 17), .mv (.tmp 16), none, []⟩,
 ⟨(some 18), .off 1 (.tmp 1), some (17, true), []⟩,
 ⟨(some 19), .ld none (.tmp 18), some (17, true), []⟩,
 ⟨(some 20), .len (.tmp 19), some (17, true), []⟩,
 ⟨(some 21), .bin .add (.val (.int .i64 19)) (.tmp 20), some (17, true), []⟩,
 ⟨(some 22), .bin .leq (.tmp 21) (.val (.int .i64 4096)), some (17, true), []⟩,
 ⟨(some 23), .pick (.tmp 17) (.tmp 22) (.val (.bool false)), none, []⟩,
 ⟨(some 2), .mv (.tmp 23), none, []⟩])
 .ret))
def c_msg_Sane : AF := ⟨b_msg_Sane, 24, [.tmp 2]⟩
theorem p_msg_Sane : prepFunc Try.prog 25 = some c_msg_Sane ∧ hasBody Try.prog 25 = true := ⟨by kernel_rfl, by kernel_rfl⟩
def b_prefix_Sane : AC :=
 (.seq
 (.reg [
 ⟨(some 1), .box 48 2 (.tmp 0), none, []⟩,
 ⟨(some 2), .mv (.val (.bool false)), none, []⟩])
 (.seq
 (.reg [
 ⟨(some 3), .off 1 (.tmp 1), none, []⟩,
 ⟨(some 4), .ld none (.tmp 3), none, []⟩,
 ⟨(some 5), .bin .geq (.tmp 4) (.val (.int .i64 0)), none, []⟩,
 ⟨(some 6), .mv (.tmp 5), none, []⟩,
 ⟨(some 7), .off 1 (.tmp 1), some (6, true), []⟩,
 ⟨(some 8), .ld none (.tmp 7), some (6, true), []⟩,
 ⟨(some 9), .bin .leq (.tmp 8) (.val (.int .i64 32)), some (6, true), []⟩,
 ⟨(some 10), .pick (.tmp 6) (.tmp 9) (.val (.bool false)), none, []⟩,
 ⟨(some 11), .mv (.tmp 10), none, []⟩,
 ⟨(some 12), .off 0 (.tmp 1), some (11, true), []⟩,
 ⟨(some 13), .ld none (.tmp 12), some (11, true), []⟩,
 ⟨(some 14), .off 1 (.tmp 1), some (11, true), []⟩,
 ⟨(some 15), .ld none (.tmp 14), some (11, true), []⟩,
 ⟨(some 16), .call 57 [(.tmp 13), (.tmp 15)], some (11, true), []⟩,
 ⟨(some 17), .off 0 (.tmp 1), some (11, true), []⟩,
 ⟨(some 18), .ld none (.tmp 17), some (11, true), []⟩,
 ⟨(some 19), .bin .eql (.tmp 16) (.tmp 18), some (11, true), []⟩,
 ⟨(some 20), .pick (.tmp 11) (.tmp 19) (.val (.bool false)), none, []⟩,
 ⟨(some 2), .mv (.tmp 20), none, []⟩])
 .ret))
def c_prefix_Sane : AF := ⟨b_prefix_Sane, 21, [.tmp 2]⟩
theorem p_prefix_Sane : prepFunc Try.prog 26 = some c_prefix_Sane ∧ hasBody Try.prog 26 = true := ⟨by kernel_rfl, by kernel_rfl⟩
def b_ridgewayref07_SamePath : AC :=
 (.seq
 (.reg [
 ⟨(some 2), .box 25 4 (.tmp 0), none, []⟩,
 ⟨(some 3), .box 25 4 (.tmp 1), none, []⟩,
 ⟨(some 4), .mv (.val (.bool false)), none, []⟩])
 (.seq
 (.seq
 (.reg [
 ⟨(some 6), .off 0 (.tmp 2), none, []⟩,
 ⟨(some 7), .ld none (.tmp 6), none, []⟩,
 ⟨(some 8), .off 0 (.tmp 3), none, []⟩,
 ⟨(some 9), .ld none (.tmp 8), none, []⟩,
 ⟨(some 10), .bin .neq (.tmp 7) (.tmp 9), none, []⟩,
 ⟨(some 11), .mv (.tmp 10), none, []⟩,
 ⟨(some 12), .off 2 (.tmp 2), some (11, false), []⟩,
 ⟨(some 13), .ld none (.tmp 12), some (11, false), []⟩,
 ⟨(some 14), .off 2 (.tmp 3), some (11, false), []⟩,
 ⟨(some 15), .ld none (.tmp 14), some (11, false), []⟩,
 ⟨(some 16), .bin .neq (.tmp 13) (.tmp 15), some (11, false), []⟩,
 ⟨(some 17), .pick (.tmp 11) (.val (.bool true)) (.tmp 16), none, []⟩,
 ⟨(some 18), .mv (.tmp 17), none, []⟩,
 ⟨(some 19), .off 3 (.tmp 2), some (18, false), []⟩,
 ⟨(some 20), .ld none (.tmp 19), some (18, false), []⟩,
 ⟨(some 21), .off 3 (.tmp 3), some (18, false), []⟩,
 ⟨(some 22), .ld none (.tmp 21), some (18, false), []⟩,
 ⟨(some 23), .bin .neq (.tmp 20) (.tmp 22), some (18, false), []⟩,
 ⟨(some 24), .pick (.tmp 18) (.val (.bool true)) (.tmp 23), none, []⟩,
 ⟨(some 25), .mv (.tmp 24), none, []⟩,
 ⟨(some 26), .off 1 (.tmp 2), some (25, false), []⟩,
 ⟨(some 27), .ld none (.tmp 26), some (25, false), []⟩,
 ⟨(some 28), .len (.tmp 27), some (25, false), []⟩,
 ⟨(some 29), .off 1 (.tmp 3), some (25, false), []⟩,
 ⟨(some 30), .ld none (.tmp 29), some (25, false), []⟩,
 ⟨(some 31), .len (.tmp 30), some (25, false), []⟩,
 ⟨(some 32), .bin .neq (.tmp 28) (.tmp 31), some (25, false), []⟩,
 ⟨(some 33), .pick (.tmp 25) (.val (.bool true)) (.tmp 32), none, []⟩])
 (.cond (.tmp 33)
 (.seq
 (.reg [
 ⟨(some 4), .mv (.val (.bool false)), none, []⟩])
 .ret)
 .skip))
 (.seq
 (.seq
 (.reg [
 ⟨(some 5), .mv (.val (.int .i64 0)), none, []⟩])
 (.block 0
 (.loop
 (.seq
 (.seq
 (.reg [
 ⟨(some 34), .mv (.tmp 5), none, []⟩,
 ⟨(some 35), .off 1 (.tmp 2), none, []⟩,
 ⟨(some 36), .ld none (.tmp 35), none, []⟩,
 ⟨(some 37), .len (.tmp 36), none, []⟩,
 ⟨(some 38), .bin .lss (.tmp 34) (.tmp 37), none, []⟩])
 (.cond (.tmp 38)
 .skip
 (.exit 0)))
 (.seq
 (.block 1
 (.seq
 (.reg [
 ⟨(some 41), .off 1 (.tmp 2), none, []⟩,
 ⟨(some 42), .ld none (.tmp 41), none, []⟩,
 ⟨(some 43), .mv (.tmp 5), none, []⟩,
 ⟨(some 44), .idxA 1 (.tmp 42) (.tmp 43), none, []⟩,
 ⟨(some 45), .ld none (.tmp 44), none, []⟩,
 ⟨(some 46), .off 1 (.tmp 3), none, []⟩,
 ⟨(some 47), .ld none (.tmp 46), none, []⟩,
 ⟨(some 48), .mv (.tmp 5), none, []⟩,
 ⟨(some 49), .idxA 1 (.tmp 47) (.tmp 48), none, []⟩,
 ⟨(some 50), .ld none (.tmp 49), none, []⟩,
 ⟨(some 51), .bin .neq (.tmp 45) (.tmp 50), none, []⟩])
 (.cond (.tmp 51)
 (.seq
 (.reg [
 ⟨(some 4), .mv (.val (.bool false)), none, []⟩])
 .ret)
 .skip)))
 (.reg [
 ⟨(some 39), .mv (.tmp 5), none, []⟩,
 ⟨(some 40), .bin .add (.tmp 39) (.val (.int .i64 1)), none, []⟩,
 ⟨(some 5), .mv (.tmp 40), none, []⟩]))))))
 (.seq
 (.reg [
 ⟨(some 4), .mv (.val (.bool true)), none, []⟩])
 .ret))))
def c_ridgewayref07_SamePath : AF := ⟨b_ridgewayref07_SamePath, 52, [.tmp 4]⟩
theorem p_ridgewayref07_SamePath : prepFunc Try.prog 27 = some c_ridgewayref07_SamePath ∧ hasBody Try.prog 27 = true := ⟨by kernel_rfl, by kernel_rfl⟩
def b_attr_Sane : AC :=
 (.seq
 (.reg [
 ⟨(some 1), .box 25 4 (.tmp 0), none, []⟩,
 ⟨(some 2), .mv (.val (.bool false)), none, []⟩])
 (.seq
 (.seq
 (.reg [
 ⟨(some 5), .off 1 (.tmp 1), none, []⟩,
 ⟨(some 6), .ld none (.tmp 5), none, []⟩,
 ⟨(some 7), .len (.tmp 6), none, []⟩,
 ⟨(some 8), .mv (.val (.int .i64 0)), none, []⟩])
 (.block 0
 (.loop
 (.seq
 (.reg [
 ⟨(some 9), .bin .lss (.tmp 8) (.tmp 7), none, []⟩])
 (.seq
 (.cond (.tmp 9)
 .skip
 (.exit 0))
 (.seq
 (.block 1
 (.seq
 (.reg [
 ⟨(some 10), .idxA 1 (.tmp 6) (.tmp 8), none, []⟩,
 ⟨(some 11), .ld none (.tmp 10), none, []⟩,
 ⟨(some 4), .mv (.tmp 11), none, []⟩])
 (.seq
 (.reg [
 ⟨(some 12), .mv (.tmp 4), none, []⟩,
 ⟨(some 13), .bin .lss (.tmp 12) (.val (.int .i64 1)), none, []⟩,
 ⟨(some 14), .mv (.tmp 13), none, []⟩,
 ⟨(some 15), .mv (.tmp 4), some (14, false), []⟩,
 ⟨(some 16), .bin .gtr (.tmp 15) (.val (.int .i64 4294967295)), some (14, false), []⟩,
 ⟨(some 17), .pick (.tmp 14) (.val (.bool true)) (.tmp 16), none, []⟩])
 (.cond (.tmp 17)
 (.seq
 (.reg [
 ⟨(some 2), .mv (.val (.bool false)), none, []⟩])
 .ret)
 .skip))))
 (.reg [
 ⟨(some 18), .bin .add (.tmp 8) (.val (.int .i64 1)), none, []⟩,
 ⟨(some 8), .mv (.tmp 18), none, []⟩])))))))
 (.seq
 (.reg [
 ⟨(some 19), .off 0 (.tmp 1), none, []⟩,
 ⟨(some 20), .ld none (.tmp 19), none, []⟩,
 ⟨(some 21), .bin .geq (.tmp 20) (.val (.int .i64 0)), none, []⟩,
 ⟨(some 22), .mv (.tmp 21), none, []⟩,
 ⟨(some 23), .off 0 (.tmp 1), some (22, true), []⟩,
 ⟨(some 24), .ld none (.tmp 23), some (22, true), []⟩,
 ⟨(some 25), .bin .leq (.tmp 24) (.val (.int .i64 2)), some (22, true), []⟩,
 ⟨(some 26), .pick (.tmp 22) (.tmp 25) (.val (.bool false)), none, []⟩,
 ⟨(some 27), .mv (.tmp 26), none, []⟩,
 ⟨(some 28), .off 1 (.tmp 1), some (27, true), []⟩,
 ⟨(some 29), .ld none (.tmp 28), some (27, true), []⟩,
 ⟨(some 30), .len (.tmp 29), some (27, true), []⟩,
 ⟨(some 31), .bin .leq (.tmp 30) (.val (.int .i64 255)), some (27, true), []⟩,
 ⟨(some 32), .pick (.tmp 27) (.tmp 31) (.val (.bool false)), none, []⟩,
 ⟨(some 33), .mv (.tmp 32), none, []⟩,
 ⟨(some 34), .off 2 (.tmp 1), some (33, true), []⟩,
 ⟨(some 35), .ld none (.tmp 34), some (33, true), []⟩,
 ⟨(some 36), .bin .geq (.tmp 35) (.val (.int .i64 1)), some (33, true), []⟩,
 ⟨(some 37), .pick (.tmp 33) (.tmp 36) (.val (.bool false)), none, []⟩,
 ⟨(some 38), .mv (.tmp 37), none, []⟩,
 ⟨(some 39), .off 2 (.tmp 1), some (38, true), []⟩,
 ⟨(some 40), .ld none (.tmp 39), some (38, true), []⟩,
 ⟨(some 41), .bin .leq (.tmp 40) (.val (.int .i64 4294967295)), some (38, true), []⟩,
 ⟨(some 42), .pick (.tmp 38) (.tmp 41) (.val (.bool false)), none, []⟩,
 ⟨(some 43), .mv (.tmp 42), none, []⟩,
 ⟨(some 44), .off 3 (.tmp 1), some (43, true), []⟩,
 ⟨(some 45), .ld none (.tmp 44), some (43, true), []⟩,
 ⟨(some 46), .bin .geq (.tmp 45) (.val (.int .i64 0)), some (43, true), []⟩,
 ⟨(some 47), .pick (.tmp 43) (.tmp 46) (.val (.bool false)), none, []⟩,
 ⟨(some 48), .mv (.tmp 47), none, []⟩,
 ⟨(some 49), .off 3 (.tmp 1), some (48, true), []⟩,
 ⟨(some 50), .ld none (.tmp 49), some (48, true), []⟩,
 ⟨(some 51), .bin .leq (.tmp 50) (.val (.int .i64 4294967295)), some (48, true), []⟩,
 ⟨(some 52), .pick (.tmp 48) (.tmp 51) (.val (.bool false)), none, []⟩,
 ⟨(some 2), .mv (.tmp 52), none, []⟩])
 .ret)))
def c_attr_Sane : AF := ⟨b_attr_Sane, 53, [.tmp 2]⟩
theorem p_attr_Sane : prepFunc Try.prog 28 = some c_attr_Sane ∧ hasBody Try.prog 28 = true := ⟨by kernel_rfl, by kernel_rfl⟩
def b_prefix_Put : AC :=
 (.seq
 (.reg [
 ⟨(some 3), .box 48 2 (.tmp 1), none, []⟩,
 ⟨(some 4), .mv (.val (.slice .full 0 [])), none, []⟩])
 (.seq
 (.seq
 (.reg [
 ⟨(some 6), .ld (some 2) (.tmp 3), none, []⟩,
 ⟨(some 7), .callS 26 [(.tmp 6)], none, []⟩,
 ⟨(some 8), .un .not (.tmp 7), none, []⟩])
 (.cond (.tmp 8)
 (.seq
 (.reg [
 ⟨(some 9), .mv (.tmp 0), none, []⟩,
 ⟨(some 4), .mv (.tmp 9), none, []⟩])
 .ret)
 .skip))
 (.seq
 (.reg [
 ⟨(some 10), .off 1 (.tmp 3), none, []⟩,
 ⟨(some 11), .ld none (.tmp 10), none, []⟩,
 ⟨(some 12), .callS 58 [(.tmp 11)], none, []⟩,
 ⟨(some 5), .mv (.tmp 12), none, []⟩])
 (.seq
 (.reg [
 ⟨(some 13), .mv (.tmp 0), none, []⟩,
 ⟨(some 14), .off 1 (.tmp 3), none, []⟩,
 ⟨(some 15), .ld none (.tmp 14), none, []⟩,
 ⟨(some 16), .call 30 [(.tmp 13), (.tmp 15), (.val (.int .i64 1))], none, []⟩,
 ⟨(some 17), .off 0 (.tmp 3), none, []⟩,
 ⟨(some 18), .ld none (.tmp 17), none, []⟩,
 ⟨(some 19), .mv (.tmp 5), none, []⟩,
 ⟨(some 20), .bin .mul (.val (.int .i64 8)) (.tmp 19), none, []⟩,
 ⟨(some 21), .bin .sub (.val (.int .i64 32)) (.tmp 20), none, []⟩,
 ⟨(some 22), .bin .shr (.tmp 18) (.tmp 21), none, []⟩,
 ⟨(some 23), .mv (.tmp 5), none, []⟩,
 ⟨(some 24), .callS 30 [(.tmp 16), (.tmp 22), (.tmp 23)], none, []⟩,
 ⟨(some 4), .mv (.tmp 24), none, []⟩])
 .ret))))
def c_prefix_Put : AF := ⟨b_prefix_Put, 25, [.tmp 4]⟩
theorem p_prefix_Put : prepFunc Try.prog 29 = some c_prefix_Put ∧ hasBody Try.prog 29 = true := ⟨by kernel_rfl, by kernel_rfl⟩
def b_octet_Put : AC :=
 (.seq
 (.reg [
 ⟨(some 6), .mv (.val (.slice .full 0 [])), none, []⟩])
 (.seq
 (.seq
 (.reg [
 ⟨(some 9), .mv (.tmp 2), none, []⟩,
 ⟨(some 10), .bin .lss (.tmp 9) (.val (.int .i64 1)), none, []⟩,
 ⟨(some 11), .mv (.tmp 10), none, []⟩,
 ⟨(some 12), .mv (.tmp 2), some (11, false), []⟩,
 ⟨(some 13), .bin .gtr (.tmp 12) (.val (.int .i64 4)), some (11, false), []⟩,
 ⟨(some 14), .pick (.tmp 11) (.val (.bool true)) (.tmp 13), none, []⟩])
 (.cond (.tmp 14)
 (.seq
 (.reg [
 ⟨(some 15), .mv (.tmp 0), none, []⟩,
 ⟨(some 6), .mv (.tmp 15), none, []⟩])
 .ret)
 .skip))
 (.seq
 (.reg [
 ⟨(some 16), .mv (.tmp 0), none, []⟩,
 ⟨(some 17), .mv (.tmp 0), none, []⟩,
 ⟨(some 18), .len (.tmp 17), none, []⟩,
 ⟨(some 19), .mv (.tmp 0), none, []⟩,
 ⟨(some 20), .len (.tmp 19), none, []⟩,
 ⟨(some 21), .slc 1 (.tmp 16) none (some (.tmp 18)) (some (.tmp 20)), none, []⟩,
 ⟨(some 7), .mv (.tmp 21), none, []⟩])
 (.seq
 (.seq
 (.reg [
 ⟨(some 22), .mv (.tmp 2), none, []⟩,
 ⟨(some 23), .mv (.val (.int .i64 0)), none, []⟩])
 (.block 0
 (.loop
 (.seq
 (.reg [
 ⟨(some 24), .bin .lss (.tmp 23) (.tmp 22), none, []⟩])
 (.seq
 (.cond (.tmp 24)
 .skip
 (.exit 0))
 (.seq
 (.block 1
 (.seq
 (.reg [
 ⟨(some 25), .mv (.tmp 23), none, []⟩,
 ⟨(some 8), .mv (.tmp 25), none, []⟩])
 (.reg [
 ⟨(some 26), .mv (.tmp 7), none, []⟩,
 ⟨(some 27), .mv (.tmp 1), none, []⟩,
 ⟨(some 28), .mv (.tmp 2), none, []⟩,
 ⟨(some 29), .bin .sub (.tmp 28) (.val (.int .i64 1)), none, []⟩,
 ⟨(some 30), .mv (.tmp 8), none, []⟩,
 ⟨(some 31), .bin .sub (.tmp 29) (.tmp 30), none, []⟩,
 ⟨(some 32), .bin .mul (.val (.int .i64 8)) (.tmp 31), none, []⟩,
 ⟨(some 33), .bin .shr (.tmp 27) (.tmp 32), none, []⟩,
 ⟨(some 34), .conv .u8 (.tmp 33), none, []⟩,
 ⟨(some 35), .lit 5 1 [0] [(.tmp 34)], none, []⟩,
 ⟨(some 36), .app 5 1 1 (.tmp 26) (.tmp 35), none, []⟩,
 ⟨(some 7), .mv (.tmp 36), none, []⟩])))
 (.reg [
 ⟨(some 37), .bin .add (.tmp 23) (.val (.int .i64 1)), none, []⟩,
 ⟨(some 23), .mv (.tmp 37), none, []⟩])))))))
 (.seq
 (.reg [
 ⟨(some 38), .mv (.tmp 7), none, []⟩,
 ⟨(some 6), .mv (.tmp 38), none, []⟩])
 .ret)))))
def c_octet_Put : AF := ⟨b_octet_Put, 39, [.tmp 6]⟩
theorem p_octet_Put : prepFunc Try.prog 30 = some c_octet_Put ∧ hasBody Try.prog 30 = true := ⟨by kernel_rfl, by kernel_rfl⟩
def b_attr_All : AC :=
 (.seq
 (.reg [
 ⟨(some 2), .mv (.val (.slice .full 0 [])), none, []⟩,
 ⟨(some 3), .mv (.val (.bool false)), none, []⟩])
 (.seq
 (.reg [
 ⟨(some 4), .mv (.val (.slice .full 0 [])), none, []⟩])
 (.seq
 (.block 0
 (.loop
 (.seq
 (.seq
 (.reg [
 ⟨(some 8), .mv (.tmp 0), none, []⟩,
 ⟨(some 9), .len (.tmp 8), none, []⟩,
 ⟨(some 10), .bin .gtr (.tmp 9) (.val (.int .i64 0)), none, []⟩])
 (.cond (.tmp 10)
 .skip
 (.exit 0)))
 (.block 1
 (.seq
 (.reg [
 ⟨(some 12), .mv (.tmp 0), none, []⟩,
 ⟨(some 13), .callS 59 [(.tmp 12)], none, []⟩,
 ⟨(some 11), .mv (.tmp 13), none, []⟩,
 ⟨(some 14), .ext (.tmp 11) 0, none, []⟩,
 ⟨(some 15), .ext (.tmp 11) 1, none, []⟩,
 ⟨(some 16), .ext (.tmp 11) 2, none, []⟩,
 ⟨(some 5), .box 74 3 (.val (.agg [(.int .i64 0), (.int .i64 0), (.slice .full 0 [])])), none, []⟩,
 ⟨none, .st 3 (.tmp 5) (.tmp 14), none, []⟩,
 ⟨(some 6), .mv (.tmp 15), none, []⟩,
 ⟨(some 7), .mv (.tmp 16), none, []⟩])
 (.seq
 (.seq
 (.reg [
 ⟨(some 17), .mv (.tmp 7), none, []⟩,
 ⟨(some 18), .un .not (.tmp 17), none, []⟩])
 (.cond (.tmp 18)
 (.seq
 (.reg [
 ⟨(some 2), .mv (.val (.slice .full 0 [])), none, []⟩,
 ⟨(some 3), .mv (.val (.bool false)), none, []⟩])
 .ret)
 .skip))
 (.reg [
 ⟨(some 19), .mv (.tmp 4), none, []⟩,
 ⟨(some 20), .ld (some 3) (.tmp 5), none, []⟩,
 ⟨(some 21), .lit 74 3 [0, 0, 1] [(.tmp 20)], none, []⟩,
 ⟨(some 22), .app 74 3 40 (.tmp 19) (.tmp 21), none, []⟩,
 ⟨(some 23), .mv (.tmp 6), none, []⟩,
 ⟨(some 4), .mv (.tmp 22), none, []⟩,
 ⟨(some 0), .mv (.tmp 23), none, []⟩])))))))
 (.seq
 (.reg [
 ⟨(some 24), .mv (.tmp 4), none, []⟩,
 ⟨(some 2), .mv (.tmp 24), none, []⟩,
 ⟨(some 3), .mv (.val (.bool true)), none, []⟩])
 .ret))))
def c_attr_All : AF := ⟨b_attr_All, 25, [.tmp 2, .tmp 3]⟩
theorem p_attr_All : prepFunc Try.prog 31 = some c_attr_All ∧ hasBody Try.prog 31 = true := ⟨by kernel_rfl, by kernel_rfl⟩
def b_attr_Judge : AC :=
 (.seq
 (.reg [
 ⟨(some 2), .box 25 4 (.val (.agg [(.int .i64 0), (.slice .full 0 []), (.int .i64 0), (.int .i64 0)])), none, []⟩,
 ⟨(some 3), .mv (.val (.int .i64 0)), none, []⟩,
 ⟨(some 4), .box 34 3 (.val (.agg [(.int .i64 0), (.int .i64 0), (.slice .full 0 [])])), none, []⟩])
 (.seq
 (.reg [
 ⟨(some 15), .prim (.mkMap 83) [], none, []⟩,
 ⟨(some 5), .mv (.tmp 15), none, []⟩])
 (.seq
 (.seq
 (.reg [
 ⟨(some 16), .mv (.tmp 0), none, []⟩,
 ⟨(some 17), .len (.tmp 16), none, []⟩,
 ⟨(some 18), .mv (.val (.int .i64 0)), none, []⟩])
 (.block 0
 (.loop
 (.seq
 (.reg [
 ⟨(some 19), .bin .lss (.tmp 18) (.tmp 17), none, []⟩])
 (.seq
 (.cond (.tmp 19)
 .skip
 (.exit 0))
 (.seq
 (.block 1
 (.seq
 (.reg [
 ⟨(some 20), .idxA 3 (.tmp 16) (.tmp 18), none, []⟩,
 ⟨(some 21), .ld (some 3) (.tmp 20), none, []⟩,
 ⟨(some 7), .box 74 3 (.val (.agg [(.int .i64 0), (.int .i64 0), (.slice .full 0 [])])), none, []⟩,
 ⟨none, .st 3 (.tmp 7) (.tmp 21), none, []⟩])
 (.seq
 (.seq
 (.reg [
 ⟨(some 23), .mv (.tmp 5), none, []⟩,
 ⟨(some 24), .off 1 (.tmp 7), none, []⟩,
 ⟨(some 25), .ld none (.tmp 24), none, []⟩,
 ⟨(some 26), .prim (.mapGet (.sc 0) (.agg [(.int .i64 0), (.int .i64 0), (.slice .full 0 [])]) true) [(.tmp 23), (.tmp 25)], none, []⟩,
 ⟨(some 22), .mv (.tmp 26), none, []⟩,
 ⟨(some 27), .ext (.tmp 22) 0, none, []⟩,
 ⟨(some 28), .ext (.tmp 22) 1, none, []⟩,
 ⟨(some 8), .box 74 3 (.val (.agg [(.int .i64 0), (.int .i64 0), (.slice .full 0 [])])), none, []⟩,
 ⟨none, .st 3 (.tmp 8) (.tmp 27), none, []⟩,
 ⟨(some 9), .mv (.tmp 28), none, []⟩])
 (.seq
 (.reg [
 ⟨(some 29), .mv (.tmp 9), none, []⟩])
 (.cond (.tmp 29)
 (.exit 1)
 .skip)))
 (.seq
 (.reg [
 ⟨(some 30), .mv (.tmp 5), none, []⟩,
 ⟨(some 31), .off 1 (.tmp 7), none, []⟩,
 ⟨(some 32), .ld none (.tmp 31), none, []⟩,
 ⟨(some 33), .ld (some 3) (.tmp 7), none, []⟩,
 ⟨none, .prim (.mapSet (.sc 0)) [(.tmp 30), (.tmp 32), (.tmp 33)], none, []⟩])
 (.seq
 (.reg [
 ⟨(some 34), .ld (some 3) (.tmp 7), none, []⟩,
 ⟨(some 35), .callS 60 [(.tmp 34)], none, []⟩])
 (.cond (.tmp 35)
 (.seq
 (.reg [
 ⟨(some 36), .bld [(.int .i64 0), (.slice .full 0 []), (.int .i64 0), (.int .i64 0)] [], none, []⟩,
 ⟨(some 37), .ld (some 3) (.tmp 7), none, []⟩,
 ⟨(some 38), .callS 61 [(.val (.slice .full 0 [])), (.tmp 37)], none, []⟩,
 ⟨(some 39), .bld [(.int .i64 0), (.int .i64 0), (.slice .full 0 [])] [(0, 1, (.val (.int .i64 3))), (1, 1, (.val (.int .i64 2))), (2, 1, (.tmp 38))], none, []⟩,
 ⟨none, .st 4 (.tmp 2) (.tmp 36), none, []⟩,
 ⟨(some 3), .mv (.val (.int .i64 2)), none, []⟩,
 ⟨none, .st 3 (.tmp 4) (.tmp 39), none, []⟩])
 .ret)
 .skip))))))
 (.reg [
 ⟨(some 40), .bin .add (.tmp 18) (.val (.int .i64 1)), none, []⟩,
 ⟨(some 18), .mv (.tmp 40), none, []⟩])))))))
 (.seq
 (.reg [
 ⟨(some 10), .box 25 4 (.val (.agg [(.int .i64 0), (.slice .full 0 []), (.int .i64 0), (.int .i64 0)])), none, []⟩])
 (.seq
 (.seq
 (.reg [
 ⟨(some 41), .callS 62 [], none, []⟩,
 ⟨(some 42), .len (.tmp 41), none, []⟩,
 ⟨(some 43), .mv (.val (.int .i64 0)), none, []⟩])
 (.block 2
 (.loop
 (.seq
 (.reg [
 ⟨(some 44), .bin .lss (.tmp 43) (.tmp 42), none, []⟩])
 (.seq
 (.cond (.tmp 44)
 .skip
 (.exit 2))
 (.seq
 (.block 3
 (.seq
 (.reg [
 ⟨(some 45), .idxA 4 (.tmp 41) (.tmp 43), none, []⟩,
 ⟨(some 46), .ld (some 4) (.tmp 45), none, []⟩,
 ⟨(some 12), .box 90 4 (.val (.agg [(.int .i64 0), (.int .i64 0), (.bool false), .nilFn])), none, []⟩,
 ⟨none, .st 4 (.tmp 12) (.tmp 46), none, []⟩])
 (.seq
 (.reg [
 ⟨(some 48), .mv (.tmp 5), none, []⟩,
 ⟨(some 49), .off 0 (.tmp 12), none, []⟩,
 ⟨(some 50), .ld none (.tmp 49), none, []⟩,
 ⟨(some 51), .prim (.mapGet (.sc 0) (.agg [(.int .i64 0), (.int .i64 0), (.slice .full 0 [])]) true) [(.tmp 48), (.tmp 50)], none, []⟩,
 ⟨(some 47), .mv (.tmp 51), none, []⟩,
 ⟨(some 52), .ext (.tmp 47) 0, none, []⟩,
 ⟨(some 53), .ext (.tmp 47) 1, none, []⟩,
 ⟨(some 13), .box 74 3 (.val (.agg [(.int .i64 0), (.int .i64 0), (.slice .full 0 [])])), none, []⟩,
 ⟨none, .st 3 (.tmp 13) (.tmp 52), none, []⟩,
 ⟨(some 14), .mv (.tmp 53), none, []⟩])
 (.seq
 (.seq
 (.reg [
 ⟨(some 54), .mv (.tmp 14), none, []⟩,
 ⟨(some 55), .un .not (.tmp 54), none, []⟩,
 ⟨(some 56), .mv (.tmp 55), none, []⟩,
 ⟨(some 57), .off 2 (.tmp 12), some (56, true), []⟩,
 ⟨(some 58), .ld none (.tmp 57), some (56, true), []⟩,
 ⟨(some 59), .un .not (.tmp 58), some (56, true), []⟩,
 ⟨(some 60), .pick (.tmp 56) (.tmp 59) (.val (.bool false)), none, []⟩])
 (.cond (.tmp 60)
 (.exit 3)
 .skip))
 (.seq
 (.reg [
 ⟨(some 61), .mv (.tmp 14), none, []⟩,
 ⟨(some 62), .un .not (.tmp 61), none, []⟩,
 ⟨(some 63), .mv (.tmp 62), none, []⟩,
 ⟨(some 64), .off 0 (.tmp 13), some (63, false), []⟩,
 ⟨(some 65), .ld none (.tmp 64), some (63, false), []⟩,
 ⟨(some 66), .bin .and (.tmp 65) (.val (.int .i64 192)), some (63, false), []⟩,
 ⟨(some 67), .off 1 (.tmp 12), some (63, false), []⟩,
 ⟨(some 68), .ld none (.tmp 67), some (63, false), []⟩,
 ⟨(some 69), .bin .neq (.tmp 66) (.tmp 68), some (63, false), []⟩,
 ⟨(some 70), .pick (.tmp 63) (.val (.bool true)) (.tmp 69), none, []⟩,
 ⟨(some 71), .mv (.tmp 70), none, []⟩,
 ⟨(some 72), .off 3 (.tmp 12), some (71, false), []⟩,
 ⟨(some 73), .ld none (.tmp 72), some (71, false), []⟩,
 ⟨(some 74), .off 2 (.tmp 13), some (71, false), []⟩,
 ⟨(some 75), .ld none (.tmp 74), some (71, false), []⟩,
 ⟨(some 76), .callvS (.tmp 73) [(.tmp 10), (.tmp 75)], some (71, false), []⟩,
 ⟨(some 77), .un .not (.tmp 76), some (71, false), []⟩,
 ⟨(some 78), .pick (.tmp 71) (.val (.bool true)) (.tmp 77), none, []⟩])
 (.cond (.tmp 78)
 (.seq
 (.reg [
 ⟨(some 79), .bld [(.int .i64 0), (.slice .full 0 []), (.int .i64 0), (.int .i64 0)] [], none, []⟩,
 ⟨(some 80), .bld [(.int .i64 0), (.int .i64 0), (.slice .full 0 [])] [], none, []⟩,
 ⟨none, .st 4 (.tmp 2) (.tmp 79), none, []⟩,
 ⟨(some 3), .mv (.val (.int .i64 1)), none, []⟩,
 ⟨none, .st 3 (.tmp 4) (.tmp 80), none, []⟩])
 .ret)
 .skip))))))
 (.reg [
 ⟨(some 81), .bin .add (.tmp 43) (.val (.int .i64 1)), none, []⟩,
 ⟨(some 43), .mv (.tmp 81), none, []⟩])))))))
 (.seq
 (.reg [
 ⟨(some 82), .ld (some 4) (.tmp 10), none, []⟩,
 ⟨(some 83), .bld [(.int .i64 0), (.int .i64 0), (.slice .full 0 [])] [], none, []⟩,
 ⟨none, .st 4 (.tmp 2) (.tmp 82), none, []⟩,
 ⟨(some 3), .mv (.val (.int .i64 0)), none, []⟩,
 ⟨none, .st 3 (.tmp 4) (.tmp 83), none, []⟩])
 .ret))))))
def c_attr_Judge : AF := ⟨b_attr_Judge, 84, [.cell 2 (some 4), .tmp 3, .cell 4 (some 3)]⟩
theorem p_attr_Judge : prepFunc Try.prog 32 = some c_attr_Judge ∧ hasBody Try.prog 32 = true := ⟨by kernel_rfl, by kernel_rfl⟩
def b_ridgewayref02_Same : AC :=
 (.seq
 (.reg [
 ⟨(some 4), .mv (.val (.bool false)), none, []⟩])
 (.seq
 (.seq
 (.reg [
 ⟨(some 6), .mv (.tmp 0), none, []⟩,
 ⟨(some 7), .len (.tmp 6), none, []⟩,
 ⟨(some 8), .mv (.tmp 1), none, []⟩,
 ⟨(some 9), .len (.tmp 8), none, []⟩,
 ⟨(some 10), .bin .neq (.tmp 7) (.tmp 9), none, []⟩])
 (.cond (.tmp 10)
 (.seq
 (.reg [
 ⟨(some 4), .mv (.val (.bool false)), none, []⟩])
 .ret)
 .skip))
 (.seq
 (.seq
 (.reg [
 ⟨(some 5), .mv (.val (.int .i64 0)), none, []⟩])
 (.block 0
 (.loop
 (.seq
 (.seq
 (.reg [
 ⟨(some 11), .mv (.tmp 5), none, []⟩,
 ⟨(some 12), .mv (.tmp 0), none, []⟩,
 ⟨(some 13), .len (.tmp 12), none, []⟩,
 ⟨(some 14), .bin .lss (.tmp 11) (.tmp 13), none, []⟩])
 (.cond (.tmp 14)
 .skip
 (.exit 0)))
 (.seq
 (.block 1
 (.seq
 (.reg [
 ⟨(some 17), .mv (.tmp 0), none, []⟩,
 ⟨(some 18), .mv (.tmp 5), none, []⟩,
 ⟨(some 19), .idxA 2 (.tmp 17) (.tmp 18), none, []⟩,
 ⟨(some 20), .ld (some 2) (.tmp 19), none, []⟩,
 ⟨(some 21), .mv (.tmp 1), none, []⟩,
 ⟨(some 22), .mv (.tmp 5), none, []⟩,
 ⟨(some 23), .idxA 2 (.tmp 21) (.tmp 22), none, []⟩,
 ⟨(some 24), .ld (some 2) (.tmp 23), none, []⟩,
 ⟨(some 25), .eqA true 2 [(0, 0), (1, 0)] (.tmp 20) (.tmp 24), none, []⟩])
 (.cond (.tmp 25)
 (.seq
 (.reg [
 ⟨(some 4), .mv (.val (.bool false)), none, []⟩])
 .ret)
 .skip)))
 (.reg [
 ⟨(some 15), .mv (.tmp 5), none, []⟩,
 ⟨(some 16), .bin .add (.tmp 15) (.val (.int .i64 1)), none, []⟩,
 ⟨(some 5), .mv (.tmp 16), none, []⟩]))))))
 (.seq
 (.reg [
 ⟨(some 4), .mv (.val (.bool true)), none, []⟩])
 .ret))))
def c_ridgewayref02_Same : AF := ⟨b_ridgewayref02_Same, 26, [.tmp 4]⟩
theorem p_ridgewayref02_Same : prepFunc Try.prog 33 = some c_ridgewayref02_Same ∧ hasBody Try.prog 33 = true := ⟨by kernel_rfl, by kernel_rfl⟩
def b_update_counted : AC :=
 (.seq
 (.reg [
 ⟨(some 2), .mv (.val (.slice .full 0 [])), none, []⟩,
 ⟨(some 3), .mv (.val (.slice .full 0 [])), none, []⟩,
 ⟨(some 4), .mv (.val (.bool false)), none, []⟩])
 (.seq
 (.reg [
 ⟨(some 8), .mv (.tmp 0), none, []⟩,
 ⟨(some 9), .callS 63 [(.tmp 8), (.val (.int .i64 2))], none, []⟩,
 ⟨(some 7), .mv (.tmp 9), none, []⟩,
 ⟨(some 10), .ext (.tmp 7) 0, none, []⟩,
 ⟨(some 11), .ext (.tmp 7) 1, none, []⟩,
 ⟨(some 12), .ext (.tmp 7) 2, none, []⟩,
 ⟨(some 5), .mv (.tmp 10), none, []⟩,
 ⟨(some 0), .mv (.tmp 11), none, []⟩,
 ⟨(some 6), .mv (.tmp 12), none, []⟩])
 (.seq
 (.seq
 (.reg [
 ⟨(some 13), .mv (.tmp 6), none, []⟩,
 ⟨(some 14), .un .not (.tmp 13), none, []⟩])
 (.cond (.tmp 14)
 (.seq
 (.reg [
 ⟨(some 2), .mv (.val (.slice .full 0 [])), none, []⟩,
 ⟨(some 3), .mv (.val (.slice .full 0 [])), none, []⟩,
 ⟨(some 4), .mv (.val (.bool false)), none, []⟩])
 .ret)
 .skip))
 (.seq
 (.reg [
 ⟨(some 15), .mv (.tmp 0), none, []⟩,
 ⟨(some 16), .mv (.tmp 5), none, []⟩,
 ⟨(some 17), .callS 64 [(.tmp 15), (.tmp 16)], none, []⟩,
 ⟨(some 18), .ext (.tmp 17) 0, none, []⟩,
 ⟨(some 19), .ext (.tmp 17) 1, none, []⟩,
 ⟨(some 20), .ext (.tmp 17) 2, none, []⟩,
 ⟨(some 2), .mv (.tmp 18), none, []⟩,
 ⟨(some 3), .mv (.tmp 19), none, []⟩,
 ⟨(some 4), .mv (.tmp 20), none, []⟩])
 .ret))))
def c_update_counted : AF := ⟨b_update_counted, 21, [.tmp 2, .tmp 3, .tmp 4]⟩
theorem p_update_counted : prepFunc Try.prog 34 = some c_update_counted ∧ hasBody Try.prog 34 = true := ⟨by kernel_rfl, by kernel_rfl⟩
def b_prefix_All : AC :=
 (.seq
 (.reg [
 ⟨(some 2), .mv (.val (.slice .full 0 [])), none, []⟩,
 ⟨(some 3), .mv (.val (.bool false)), none, []⟩])
 (.scope
 (.seq
 (.reg [
 ⟨(some 4), .mv (.val (.slice .full 0 [])), none, []⟩])
 (.seq
 (.label 0)
 (.block 0
 (.loop
 (.block 1
 (.seq
 (.reg [
 ⟨(some 9), .mv (.tmp 0), none, []⟩,
 ⟨(some 10), .callS 65 [(.tmp 9)], none, []⟩,
 ⟨(some 8), .mv (.tmp 10), none, []⟩,
 ⟨(some 11), .ext (.tmp 8) 0, none, []⟩,
 ⟨(some 12), .ext (.tmp 8) 1, none, []⟩,
 ⟨(some 13), .ext (.tmp 8) 2, none, []⟩,
 ⟨(some 5), .box 48 2 (.val (.agg [(.int .i64 0), (.int .i64 0)])), none, []⟩,
 ⟨none, .st 2 (.tmp 5) (.tmp 11), none, []⟩,
 ⟨(some 6), .mv (.tmp 12), none, []⟩,
 ⟨(some 7), .mv (.tmp 13), none, []⟩])
 (.seq
 (.block 2
 (.seq
 (.reg [
 ⟨(some 15), .mv (.tmp 7), none, []⟩,
 ⟨(some 14), .mv (.tmp 15), none, []⟩])
 (.cond (.tmp 14)
 (.seq
 (.reg [
 ⟨(some 16), .mv (.tmp 4), none, []⟩,
 ⟨(some 17), .ld (some 2) (.tmp 5), none, []⟩,
 ⟨(some 18), .lit 48 2 [0, 0] [(.tmp 17)], none, []⟩,
 ⟨(some 19), .app 48 2 16 (.tmp 16) (.tmp 18), none, []⟩,
 ⟨(some 20), .mv (.tmp 6), none, []⟩,
 ⟨(some 4), .mv (.tmp 19), none, []⟩,
 ⟨(some 0), .mv (.tmp 20), none, []⟩])
 (.exit 1))
 (.seq
 (.reg [
 ⟨(some 22), .mv (.tmp 0), none, []⟩,
 ⟨(some 23), .len (.tmp 22), none, []⟩,
 ⟨(some 24), .bin .gtr (.tmp 23) (.val (.int .i64 0)), none, []⟩,
 ⟨(some 21), .mv (.tmp 24), none, []⟩])
 (.cond (.tmp 21)
 (.seq
 (.reg [
 ⟨(some 2), .mv (.val (.slice .full 0 [])), none, []⟩,
 ⟨(some 3), .mv (.val (.bool false)), none, []⟩])
 .ret)
 .skip)))))
 (.seq
 (.reg [
 ⟨(some 25), .mv (.tmp 4), none, []⟩,
 ⟨(some 2), .mv (.tmp 25), none, []⟩,
 ⟨(some 3), .mv (.val (.bool true)), none, []⟩])
 .ret))))))))))
def c_prefix_All : AF := ⟨b_prefix_All, 26, [.tmp 2, .tmp 3]⟩
theorem p_prefix_All : prepFunc Try.prog 35 = some c_prefix_All ∧ hasBody Try.prog 35 = true := ⟨by kernel_rfl, by kernel_rfl⟩
def b_ridgewayref03_Sane : AC :=
 (.seq
 (.reg [
 ⟨(some 1), .box 30 2 (.tmp 0), none, []⟩,
 ⟨(some 2), .mv (.val (.bool false)), none, []⟩])
 (.seq
 (.reg [
 ⟨(some 3), .off 0 (.tmp 1), none, []⟩,
 ⟨(some 4), .ld none (.tmp 3), none, []⟩,
 ⟨(some 5), .off 1 (.tmp 1), none, []⟩,
 ⟨(some 6), .ld none (.tmp 5), none, []⟩,
 ⟨(some 7), .len (.tmp 6), none, []⟩,
 ⟨(some 8), .bin .add (.tmp 7) (.val (.int .i64 19)), none, []⟩,
 ⟨(some 9), .callS 66 [(.tmp 4), (.tmp 8)], none, []⟩,
 ⟨(some 2), .mv (.tmp 9), none, []⟩])
 .ret))
def c_ridgewayref03_Sane : AF := ⟨b_ridgewayref03_Sane, 10, [.tmp 2]⟩
theorem p_ridgewayref03_Sane : prepFunc Try.prog 36 = some c_ridgewayref03_Sane ∧ hasBody Try.prog 36 = true := ⟨by kernel_rfl, by kernel_rfl⟩
def b_ridgewayref08_bad : AC :=
 (.seq
 (.reg [
 ⟨(some 2), .box 27 6 (.val (.agg [(.slice .full 0 []), (.int .i64 0), (.slice .full 0 []), (.int .i64 0), (.int .i64 0), (.slice .full 0 [])])), none, []⟩,
 ⟨(some 3), .box 34 3 (.val (.agg [(.int .i64 0), (.int .i64 0), (.slice .full 0 [])])), none, []⟩])
 (.seq
 (.reg [
 ⟨(some 4), .bld [(.slice .full 0 []), (.int .i64 0), (.slice .full 0 []), (.int .i64 0), (.int .i64 0), (.slice .full 0 [])] [], none, []⟩,
 ⟨(some 5), .mv (.tmp 0), none, []⟩,
 ⟨(some 6), .bld [(.int .i64 0), (.int .i64 0), (.slice .full 0 [])] [(0, 1, (.val (.int .i64 3))), (1, 1, (.tmp 5))], none, []⟩,
 ⟨none, .st 6 (.tmp 2) (.tmp 4), none, []⟩,
 ⟨none, .st 3 (.tmp 3) (.tmp 6), none, []⟩])
 .ret))
def c_ridgewayref08_bad : AF := ⟨b_ridgewayref08_bad, 7, [.cell 2 (some 6), .cell 3 (some 3)]⟩
theorem p_ridgewayref08_bad : prepFunc Try.prog 37 = some c_ridgewayref08_bad ∧ hasBody Try.prog 37 = true := ⟨by kernel_rfl, by kernel_rfl⟩
def b_ridgewayref08_part : AC :=
 (.seq
 (.reg [
 ⟨(some 2), .mv (.val (.slice .full 0 [])), none, []⟩,
 ⟨(some 3), .mv (.val (.slice .full 0 [])), none, []⟩,
 ⟨(some 4), .mv (.val (.bool false)), none, []⟩])
 (.seq
 (.reg [
 ⟨(some 9), .mv (.tmp 0), none, []⟩,
 ⟨(some 10), .callS 67 [(.tmp 9), (.val (.int .i64 2))], none, []⟩,
 ⟨(some 8), .mv (.tmp 10), none, []⟩,
 ⟨(some 11), .ext (.tmp 8) 0, none, []⟩,
 ⟨(some 12), .ext (.tmp 8) 1, none, []⟩,
 ⟨(some 13), .ext (.tmp 8) 2, none, []⟩,
 ⟨(some 5), .mv (.tmp 11), none, []⟩,
 ⟨(some 6), .mv (.tmp 12), none, []⟩,
 ⟨(some 7), .mv (.tmp 13), none, []⟩])
 (.seq
 (.seq
 (.reg [
 ⟨(some 14), .mv (.tmp 7), none, []⟩,
 ⟨(some 15), .un .not (.tmp 14), none, []⟩])
 (.cond (.tmp 15)
 (.seq
 (.reg [
 ⟨(some 2), .mv (.val (.slice .full 0 [])), none, []⟩,
 ⟨(some 3), .mv (.val (.slice .full 0 [])), none, []⟩,
 ⟨(some 4), .mv (.val (.bool false)), none, []⟩])
 .ret)
 .skip))
 (.seq
 (.reg [
 ⟨(some 16), .mv (.tmp 6), none, []⟩,
 ⟨(some 17), .mv (.tmp 5), none, []⟩,
 ⟨(some 18), .callS 68 [(.tmp 16), (.tmp 17)], none, []⟩,
 ⟨(some 19), .ext (.tmp 18) 0, none, []⟩,
 ⟨(some 20), .ext (.tmp 18) 1, none, []⟩,
 ⟨(some 21), .ext (.tmp 18) 2, none, []⟩,
 ⟨(some 2), .mv (.tmp 19), none, []⟩,
 ⟨(some 3), .mv (.tmp 20), none, []⟩,
 ⟨(some 4), .mv (.tmp 21), none, []⟩])
 .ret))))
def c_ridgewayref08_part : AF := ⟨b_ridgewayref08_part, 22, [.tmp 2, .tmp 3, .tmp 4]⟩
theorem p_ridgewayref08_part : prepFunc Try.prog 38 = some c_ridgewayref08_part ∧ hasBody Try.prog 38 = true := ⟨by kernel_rfl, by kernel_rfl⟩
def b_ridgewayref02_All : AC :=
 (.seq
 (.reg [
 ⟨(some 2), .mv (.val (.slice .full 0 [])), none, []⟩,
 ⟨(some 3), .mv (.val (.bool false)), none, []⟩])
 (.seq
 (.reg [
 ⟨(some 4), .mv (.val (.slice .full 0 [])), none, []⟩])
 (.seq
 (.block 0
 (.loop
 (.seq
 (.seq
 (.reg [
 ⟨(some 8), .mv (.tmp 0), none, []⟩,
 ⟨(some 9), .len (.tmp 8), none, []⟩,
 ⟨(some 10), .bin .gtr (.tmp 9) (.val (.int .i64 0)), none, []⟩])
 (.cond (.tmp 10)
 .skip
 (.exit 0)))
 (.block 1
 (.seq
 (.reg [
 ⟨(some 12), .mv (.tmp 0), none, []⟩,
 ⟨(some 13), .callS 69 [(.tmp 12)], none, []⟩,
 ⟨(some 11), .mv (.tmp 13), none, []⟩,
 ⟨(some 14), .ext (.tmp 11) 0, none, []⟩,
 ⟨(some 15), .ext (.tmp 11) 1, none, []⟩,
 ⟨(some 16), .ext (.tmp 11) 2, none, []⟩,
 ⟨(some 5), .box 48 2 (.val (.agg [(.int .i64 0), (.int .i64 0)])), none, []⟩,
 ⟨none, .st 2 (.tmp 5) (.tmp 14), none, []⟩,
 ⟨(some 6), .mv (.tmp 15), none, []⟩,
 ⟨(some 7), .mv (.tmp 16), none, []⟩])
 (.seq
 (.seq
 (.reg [
 ⟨(some 17), .mv (.tmp 7), none, []⟩,
 ⟨(some 18), .un .not (.tmp 17), none, []⟩])
 (.cond (.tmp 18)
 (.seq
 (.reg [
 ⟨(some 2), .mv (.val (.slice .full 0 [])), none, []⟩,
 ⟨(some 3), .mv (.val (.bool false)), none, []⟩])
 .ret)
 .skip))
 (.seq
 (.reg [
 ⟨(some 19), .mv (.tmp 4), none, []⟩,
 ⟨(some 20), .ld (some 2) (.tmp 5), none, []⟩,
 ⟨(some 21), .lit 48 2 [0, 0] [(.tmp 20)], none, []⟩,
 ⟨(some 22), .app 48 2 16 (.tmp 19) (.tmp 21), none, []⟩,
 ⟨(some 4), .mv (.tmp 22), none, []⟩])
 (.reg [
 ⟨(some 23), .mv (.tmp 6), none, []⟩,
 ⟨(some 0), .mv (.tmp 23), none, []⟩]))))))))
 (.seq
 (.reg [
 ⟨(some 24), .mv (.tmp 4), none, []⟩,
 ⟨(some 2), .mv (.tmp 24), none, []⟩,
 ⟨(some 3), .mv (.val (.bool true)), none, []⟩])
 .ret))))
def c_ridgewayref02_All : AF := ⟨b_ridgewayref02_All, 25, [.tmp 2, .tmp 3]⟩
theorem p_ridgewayref02_All : prepFunc Try.prog 39 = some c_ridgewayref02_All ∧ hasBody Try.prog 39 = true := ⟨by kernel_rfl, by kernel_rfl⟩
def b_ridgewayref07_All : AC :=
 (.seq
 (.reg [
 ⟨(some 2), .mv (.val (.slice .full 0 [])), none, []⟩,
 ⟨(some 3), .mv (.val (.bool false)), none, []⟩])
 (.seq
 (.reg [
 ⟨(some 4), .mv (.val (.slice .full 0 [])), none, []⟩])
 (.seq
 (.block 0
 (.loop
 (.seq
 (.seq
 (.reg [
 ⟨(some 8), .mv (.tmp 0), none, []⟩,
 ⟨(some 9), .len (.tmp 8), none, []⟩,
 ⟨(some 10), .bin .gtr (.tmp 9) (.val (.int .i64 0)), none, []⟩])
 (.cond (.tmp 10)
 .skip
 (.exit 0)))
 (.block 1
 (.seq
 (.reg [
 ⟨(some 12), .mv (.tmp 0), none, []⟩,
 ⟨(some 13), .callS 70 [(.tmp 12)], none, []⟩,
 ⟨(some 11), .mv (.tmp 13), none, []⟩,
 ⟨(some 14), .ext (.tmp 11) 0, none, []⟩,
 ⟨(some 15), .ext (.tmp 11) 1, none, []⟩,
 ⟨(some 16), .ext (.tmp 11) 2, none, []⟩,
 ⟨(some 5), .box 74 3 (.val (.agg [(.int .i64 0), (.int .i64 0), (.slice .full 0 [])])), none, []⟩,
 ⟨none, .st 3 (.tmp 5) (.tmp 14), none, []⟩,
 ⟨(some 6), .mv (.tmp 15), none, []⟩,
 ⟨(some 7), .mv (.tmp 16), none, []⟩])
 (.seq
 (.seq
 (.reg [
 ⟨(some 17), .mv (.tmp 7), none, []⟩,
 ⟨(some 18), .un .not (.tmp 17), none, []⟩])
 (.cond (.tmp 18)
 (.seq
 (.reg [
 ⟨(some 2), .mv (.val (.slice .full 0 [])), none, []⟩,
 ⟨(some 3), .mv (.val (.bool false)), none, []⟩])
 .ret)
 .skip))
 (.seq
 (.reg [
 ⟨(some 19), .mv (.tmp 4), none, []⟩,
 ⟨(some 20), .ld (some 3) (.tmp 5), none, []⟩,
 ⟨(some 21), .lit 74 3 [0, 0, 1] [(.tmp 20)], none, []⟩,
 ⟨(some 22), .app 74 3 40 (.tmp 19) (.tmp 21), none, []⟩,
 ⟨(some 4), .mv (.tmp 22), none, []⟩])
 (.reg [
 ⟨(some 23), .mv (.tmp 6), none, []⟩,
 ⟨(some 0), .mv (.tmp 23), none, []⟩]))))))))
 (.seq
 (.reg [
 ⟨(some 24), .mv (.tmp 4), none, []⟩,
 ⟨(some 2), .mv (.tmp 24), none, []⟩,
 ⟨(some 3), .mv (.val (.bool true)), none, []⟩])
 .ret))))
def c_ridgewayref07_All : AF := ⟨b_ridgewayref07_All, 25, [.tmp 2, .tmp 3]⟩
theorem p_ridgewayref07_All : prepFunc Try.prog 40 = some c_ridgewayref07_All ∧ hasBody Try.prog 40 = true := ⟨by kernel_rfl, by kernel_rfl⟩
def b_ridgewayref07_Judge : AC :=
 (.seq
 (.reg [
 ⟨(some 2), .box 25 4 (.val (.agg [(.int .i64 0), (.slice .full 0 []), (.int .i64 0), (.int .i64 0)])), none, []⟩,
 ⟨(some 3), .mv (.val (.int .i64 0)), none, []⟩,
 ⟨(some 4), .box 34 3 (.val (.agg [(.int .i64 0), (.int .i64 0), (.slice .full 0 [])])), none, []⟩])
 (.seq
 (.reg [
 ⟨(some 7), .bld [(.int .i64 0), (.slice .full 0 []), (.int .i64 0), (.int .i64 0), (.slice .full 0 []), (.bool false), (.int .i64 0), (.int .i64 0), (.slice .full 0 [])] [], none, []⟩,
 ⟨(some 8), .box 99 9 (.tmp 7), none, []⟩,
 ⟨(some 5), .mv (.tmp 8), none, []⟩])
 (.seq
 (.seq
 (.reg [
 ⟨(some 6), .mv (.val (.int .i64 0)), none, []⟩])
 (.block 0
 (.loop
 (.seq
 (.seq
 (.reg [
 ⟨(some 9), .mv (.tmp 6), none, []⟩,
 ⟨(some 10), .mv (.tmp 0), none, []⟩,
 ⟨(some 11), .len (.tmp 10), none, []⟩,
 ⟨(some 12), .bin .lss (.tmp 9) (.tmp 11), none, []⟩])
 (.cond (.tmp 12)
 .skip
 (.exit 0)))
 (.seq
 (.block 1
 (.seq
 (.reg [
 ⟨(some 15), .mv (.tmp 5), none, []⟩,
 ⟨(some 16), .mv (.tmp 0), none, []⟩,
 ⟨(some 17), .mv (.tmp 6), none, []⟩,
 ⟨(some 18), .idxA 3 (.tmp 16) (.tmp 17), none, []⟩,
 ⟨(some 19), .off 1 (.tmp 18), none, []⟩,
 ⟨(some 20), .ld none (.tmp 19), none, []⟩,
 ⟨(some 21), .callS 71 [(.tmp 15), (.tmp 20)], none, []⟩,
 ⟨(some 22), .un .not (.tmp 21), none, []⟩])
 (.cond (.tmp 22)
 (.seq
 (.reg [
 ⟨(some 24), .mv (.tmp 5), none, []⟩,
 ⟨(some 25), .nilc (.tmp 24), none, []⟩,
 ⟨(some 26), .off 4 (.tmp 25), none, []⟩,
 ⟨(some 27), .ld none (.tmp 26), none, []⟩,
 ⟨(some 28), .mv (.tmp 0), none, []⟩,
 ⟨(some 29), .mv (.tmp 6), none, []⟩,
 ⟨(some 30), .idxA 3 (.tmp 28) (.tmp 29), none, []⟩,
 ⟨(some 31), .off 1 (.tmp 30), none, []⟩,
 ⟨(some 32), .ld none (.tmp 31), none, []⟩,
 ⟨(some 33), .lit 3 1 [0] [(.tmp 32)], none, []⟩,
 ⟨(some 23), .mv (.tmp 5), none, []⟩,
 ⟨(some 34), .app 3 1 8 (.tmp 27) (.tmp 33), none, []⟩,
 ⟨(some 35), .nilc (.tmp 23), none, []⟩,
 ⟨(some 36), .off 4 (.tmp 35), none, []⟩,
 ⟨none, .st 1 (.tmp 36) (.tmp 34), none, []⟩])
 (.reg [
 ⟨(some 37), .mv (.tmp 5), none, []⟩,
 ⟨(some 38), .mv (.tmp 0), none, []⟩,
 ⟨(some 39), .mv (.tmp 6), none, []⟩,
 ⟨(some 40), .idxA 3 (.tmp 38) (.tmp 39), none, []⟩,
 ⟨(some 41), .ld (some 3) (.tmp 40), none, []⟩,
 ⟨(some 42), .callS 72 [(.tmp 37), (.tmp 41)], none, []⟩]))
 .skip)))
 (.reg [
 ⟨(some 13), .mv (.tmp 6), none, []⟩,
 ⟨(some 14), .bin .add (.tmp 13) (.val (.int .i64 1)), none, []⟩,
 ⟨(some 6), .mv (.tmp 14), none, []⟩]))))))
 (.seq
 (.seq
 (.reg [
 ⟨(some 43), .mv (.tmp 5), none, []⟩,
 ⟨(some 44), .nilc (.tmp 43), none, []⟩,
 ⟨(some 45), .off 6 (.tmp 44), none, []⟩,
 ⟨(some 46), .off 0 (.tmp 45), none, []⟩,
 ⟨(some 47), .ld none (.tmp 46), none, []⟩,
 ⟨(some 48), .bin .neq (.tmp 47) (.val (.int .i64 0)), none, []⟩])
 (.cond (.tmp 48)
 (.seq
 (.reg [
 ⟨(some 49), .bld [(.int .i64 0), (.slice .full 0 []), (.int .i64 0), (.int .i64 0)] [], none, []⟩,
 ⟨(some 50), .mv (.tmp 5), none, []⟩,
 ⟨(some 51), .nilc (.tmp 50), none, []⟩,
 ⟨(some 52), .off 6 (.tmp 51), none, []⟩,
 ⟨(some 53), .ld (some 3) (.tmp 52), none, []⟩,
 ⟨none, .st 4 (.tmp 2) (.tmp 49), none, [((some 3), (.tmp 52), 53)]⟩,
 ⟨(some 3), .mv (.val (.int .i64 2)), none, [((some 3), (.tmp 52), 53)]⟩,
 ⟨none, .st 3 (.tmp 4) (.tmp 53), none, []⟩])
 .ret)
 .skip))
 (.seq
 (.seq
 (.reg [
 ⟨(some 54), .mv (.tmp 5), none, []⟩,
 ⟨(some 55), .nilc (.tmp 54), none, []⟩,
 ⟨(some 56), .off 5 (.tmp 55), none, []⟩,
 ⟨(some 57), .ld none (.tmp 56), none, []⟩,
 ⟨(some 58), .mv (.tmp 57), none, []⟩,
 ⟨(some 59), .mv (.tmp 5), some (58, false), []⟩,
 ⟨(some 60), .callS 71 [(.tmp 59), (.val (.int .i64 1))], some (58, false), []⟩,
 ⟨(some 61), .un .not (.tmp 60), some (58, false), []⟩,
 ⟨(some 62), .pick (.tmp 58) (.val (.bool true)) (.tmp 61), none, []⟩,
 ⟨(some 63), .mv (.tmp 62), none, []⟩,
 ⟨(some 64), .mv (.tmp 5), some (63, false), []⟩,
 ⟨(some 65), .callS 71 [(.tmp 64), (.val (.int .i64 2))], some (63, false), []⟩,
 ⟨(some 66), .un .not (.tmp 65), some (63, false), []⟩,
 ⟨(some 67), .pick (.tmp 63) (.val (.bool true)) (.tmp 66), none, []⟩,
 ⟨(some 68), .mv (.tmp 67), none, []⟩,
 ⟨(some 69), .mv (.tmp 5), some (68, false), []⟩,
 ⟨(some 70), .callS 71 [(.tmp 69), (.val (.int .i64 3))], some (68, false), []⟩,
 ⟨(some 71), .un .not (.tmp 70), some (68, false), []⟩,
 ⟨(some 72), .pick (.tmp 68) (.val (.bool true)) (.tmp 71), none, []⟩])
 (.cond (.tmp 72)
 (.seq
 (.reg [
 ⟨(some 73), .bld [(.int .i64 0), (.slice .full 0 []), (.int .i64 0), (.int .i64 0)] [], none, []⟩,
 ⟨(some 74), .bld [(.int .i64 0), (.int .i64 0), (.slice .full 0 [])] [], none, []⟩,
 ⟨none, .st 4 (.tmp 2) (.tmp 73), none, []⟩,
 ⟨(some 3), .mv (.val (.int .i64 1)), none, []⟩,
 ⟨none, .st 3 (.tmp 4) (.tmp 74), none, []⟩])
 .ret)
 .skip))
 (.seq
 (.reg [
 ⟨(some 75), .mv (.tmp 5), none, []⟩,
 ⟨(some 76), .nilc (.tmp 75), none, []⟩,
 ⟨(some 77), .off 0 (.tmp 76), none, []⟩,
 ⟨(some 78), .ld (some 4) (.tmp 77), none, []⟩,
 ⟨(some 79), .bld [(.int .i64 0), (.int .i64 0), (.slice .full 0 [])] [], none, []⟩,
 ⟨none, .st 4 (.tmp 2) (.tmp 78), none, []⟩,
 ⟨(some 3), .mv (.val (.int .i64 0)), none, []⟩,
 ⟨none, .st 3 (.tmp 4) (.tmp 79), none, []⟩])
 .ret))))))
def c_ridgewayref07_Judge : AF := ⟨b_ridgewayref07_Judge, 80, [.cell 2 (some 4), .tmp 3, .cell 4 (some 3)]⟩
theorem p_ridgewayref07_Judge : prepFunc Try.prog 41 = some c_ridgewayref07_Judge ∧ hasBody Try.prog 41 = true := ⟨by kernel_rfl, by kernel_rfl⟩
def b_ridgewayref08_prefixes : AC :=
 (.seq
 (.reg [
 ⟨(some 2), .mv (.val (.bool false)), none, []⟩])
 (.seq
 (.seq
 (.reg [
 ⟨(some 3), .mv (.val (.int .i64 0)), none, []⟩])
 (.block 0
 (.loop
 (.seq
 (.seq
 (.reg [
 ⟨(some 4), .mv (.tmp 3), none, []⟩,
 ⟨(some 5), .mv (.tmp 0), none, []⟩,
 ⟨(some 6), .len (.tmp 5), none, []⟩,
 ⟨(some 7), .bin .lss (.tmp 4) (.tmp 6), none, []⟩])
 (.cond (.tmp 7)
 .skip
 (.exit 0)))
 (.seq
 (.block 1
 (.seq
 (.reg [
 ⟨(some 10), .mv (.tmp 0), none, []⟩,
 ⟨(some 11), .mv (.tmp 3), none, []⟩,
 ⟨(some 12), .idxA 2 (.tmp 10) (.tmp 11), none, []⟩,
 ⟨(some 13), .ld (some 2) (.tmp 12), none, []⟩,
 ⟨(some 14), .callS 73 [(.tmp 13)], none, []⟩,
 ⟨(some 15), .un .not (.tmp 14), none, []⟩])
 (.cond (.tmp 15)
 (.seq
 (.reg [
 ⟨(some 2), .mv (.val (.bool false)), none, []⟩])
 .ret)
 .skip)))
 (.reg [
 ⟨(some 8), .mv (.tmp 3), none, []⟩,
 ⟨(some 9), .bin .add (.tmp 8) (.val (.int .i64 1)), none, []⟩,
 ⟨(some 3), .mv (.tmp 9), none, []⟩]))))))
 (.seq
 (.reg [
 ⟨(some 2), .mv (.val (.bool true)), none, []⟩])
 .ret)))
def c_ridgewayref08_prefixes : AF := ⟨b_ridgewayref08_prefixes, 16, [.tmp 2]⟩
theorem p_ridgewayref08_prefixes : prepFunc Try.prog 42 = some c_ridgewayref08_prefixes ∧ hasBody Try.prog 42 = true := ⟨by kernel_rfl, by kernel_rfl⟩
def b_ridgewayref07_Sane : AC :=
 (.seq
 (.reg [
 ⟨(some 1), .box 25 4 (.tmp 0), none, []⟩,
 ⟨(some 2), .mv (.val (.bool false)), none, []⟩])
 (.seq
 (.seq
 (.reg [
 ⟨(some 3), .mv (.val (.int .i64 0)), none, []⟩])
 (.block 0
 (.loop
 (.seq
 (.seq
 (.reg [
 ⟨(some 4), .mv (.tmp 3), none, []⟩,
 ⟨(some 5), .off 1 (.tmp 1), none, []⟩,
 ⟨(some 6), .ld none (.tmp 5), none, []⟩,
 ⟨(some 7), .len (.tmp 6), none, []⟩,
 ⟨(some 8), .bin .lss (.tmp 4) (.tmp 7), none, []⟩])
 (.cond (.tmp 8)
 .skip
 (.exit 0)))
 (.seq
 (.block 1
 (.seq
 (.reg [
 ⟨(some 11), .off 1 (.tmp 1), none, []⟩,
 ⟨(some 12), .ld none (.tmp 11), none, []⟩,
 ⟨(some 13), .mv (.tmp 3), none, []⟩,
 ⟨(some 14), .idxA 1 (.tmp 12) (.tmp 13), none, []⟩,
 ⟨(some 15), .ld none (.tmp 14), none, []⟩,
 ⟨(some 16), .bin .lss (.tmp 15) (.val (.int .i64 1)), none, []⟩,
 ⟨(some 17), .mv (.tmp 16), none, []⟩,
 ⟨(some 18), .off 1 (.tmp 1), some (17, false), []⟩,
 ⟨(some 19), .ld none (.tmp 18), some (17, false), []⟩,
 ⟨(some 20), .mv (.tmp 3), some (17, false), []⟩,
 ⟨(some 21), .idxA 1 (.tmp 19) (.tmp 20), some (17, false), []⟩,
 ⟨(some 22), .ld none (.tmp 21), some (17, false), []⟩,
 ⟨(some 23), .bin .gtr (.tmp 22) (.val (.int .i64 4294967295)), some (17, false), []⟩,
 ⟨(some 24), .pick (.tmp 17) (.val (.bool true)) (.tmp 23), none, []⟩])
 (.cond (.tmp 24)
 (.seq
 (.reg [
 ⟨(some 2), .mv (.val (.bool false)), none, []⟩])
 .ret)
 .skip)))
 (.reg [
 ⟨(some 9), .mv (.tmp 3), none, []⟩,
 ⟨(some 10), .bin .add (.tmp 9) (.val (.int .i64 1)), none, []⟩,
 ⟨(some 3), .mv (.tmp 10), none, []⟩]))))))
 (.seq
 (.reg [
 ⟨(some 25), .off 0 (.tmp 1), none, []⟩,
 ⟨(some 26), .ld none (.tmp 25), none, []⟩,
 ⟨(some 27), .bin .geq (.tmp 26) (.val (.int .i64 0)), none, []⟩,
 ⟨(some 28), .mv (.tmp 27), none, []⟩,
 ⟨(some 29), .off 0 (.tmp 1), some (28, true), []⟩,
 ⟨(some 30), .ld none (.tmp 29), some (28, true), []⟩,
 ⟨(some 31), .bin .leq (.tmp 30) (.val (.int .i64 2)), some (28, true), []⟩,
 ⟨(some 32), .pick (.tmp 28) (.tmp 31) (.val (.bool false)), none, []⟩,
 ⟨(some 33), .mv (.tmp 32), none, []⟩,
 ⟨(some 34), .off 1 (.tmp 1), some (33, true), []⟩,
 ⟨(some 35), .ld none (.tmp 34), some (33, true), []⟩,
 ⟨(some 36), .len (.tmp 35), some (33, true), []⟩,
 ⟨(some 37), .bin .leq (.tmp 36) (.val (.int .i64 255)), some (33, true), []⟩,
 ⟨(some 38), .pick (.tmp 33) (.tmp 37) (.val (.bool false)), none, []⟩,
 ⟨(some 39), .mv (.tmp 38), none, []⟩,
 ⟨(some 40), .off 2 (.tmp 1), some (39, true), []⟩,
 ⟨(some 41), .ld none (.tmp 40), some (39, true), []⟩,
 ⟨(some 42), .bin .geq (.tmp 41) (.val (.int .i64 1)), some (39, true), []⟩,
 ⟨(some 43), .pick (.tmp 39) (.tmp 42) (.val (.bool false)), none, []⟩,
 ⟨(some 44), .mv (.tmp 43), none, []⟩,
 ⟨(some 45), .off 2 (.tmp 1), some (44, true), []⟩,
 ⟨(some 46), .ld none (.tmp 45), some (44, true), []⟩,
 ⟨(some 47), .bin .leq (.tmp 46) (.val (.int .i64 4294967295)), some (44, true), []⟩,
 ⟨(some 48), .pick (.tmp 44) (.tmp 47) (.val (.bool false)), none, []⟩,
 ⟨(some 49), .mv (.tmp 48), none, []⟩,
 ⟨(some 50), .off 3 (.tmp 1), some (49, true), []⟩,
 ⟨(some 51), .ld none (.tmp 50), some (49, true), []⟩,
 ⟨(some 52), .bin .geq (.tmp 51) (.val (.int .i64 0)), some (49, true), []⟩,
 ⟨(some 53), .pick (.tmp 49) (.tmp 52) (.val (.bool false)), none, []⟩,
 ⟨(some 54), .mv (.tmp 53), none, []⟩,
 ⟨(some 55), .off 3 (.tmp 1), some (54, true), []⟩,
 ⟨(some 56), .ld none (.tmp 55), some (54, true), []⟩,
 ⟨(some 57), .bin .leq (.tmp 56) (.val (.int .i64 4294967295)), some (54, true), []⟩,
 ⟨(some 58), .pick (.tmp 54) (.tmp 57) (.val (.bool false)), none, []⟩,
 ⟨(some 2), .mv (.tmp 58), none, []⟩])
 .ret)))
def c_ridgewayref07_Sane : AF := ⟨b_ridgewayref07_Sane, 59, [.tmp 2]⟩
theorem p_ridgewayref07_Sane : prepFunc Try.prog 43 = some c_ridgewayref07_Sane ∧ hasBody Try.prog 43 = true := ⟨by kernel_rfl, by kernel_rfl⟩
def b_update_body : AC :=
 (.seq
 (.reg [
 ⟨(some 6), .mv (.val (.slice .full 0 [])), none, []⟩])
 (.seq
 (.reg [
 ⟨(some 8), .mv (.tmp 0), none, []⟩,
 ⟨(some 9), .len (.tmp 8), none, []⟩,
 ⟨(some 10), .callS 30 [(.val (.slice .full 0 [])), (.tmp 9), (.val (.int .i64 2))], none, []⟩,
 ⟨(some 7), .mv (.tmp 10), none, []⟩])
 (.seq
 (.reg [
 ⟨(some 11), .mv (.tmp 7), none, []⟩,
 ⟨(some 12), .mv (.tmp 0), none, []⟩,
 ⟨(some 13), .app 5 1 1 (.tmp 11) (.tmp 12), none, []⟩,
 ⟨(some 7), .mv (.tmp 13), none, []⟩])
 (.seq
 (.reg [
 ⟨(some 14), .mv (.tmp 7), none, []⟩,
 ⟨(some 15), .mv (.tmp 1), none, []⟩,
 ⟨(some 16), .len (.tmp 15), none, []⟩,
 ⟨(some 17), .callS 30 [(.val (.slice .full 0 [])), (.tmp 16), (.val (.int .i64 2))], none, []⟩,
 ⟨(some 18), .app 5 1 1 (.tmp 14) (.tmp 17), none, []⟩,
 ⟨(some 7), .mv (.tmp 18), none, []⟩])
 (.seq
 (.reg [
 ⟨(some 19), .mv (.tmp 7), none, []⟩,
 ⟨(some 20), .mv (.tmp 1), none, []⟩,
 ⟨(some 21), .app 5 1 1 (.tmp 19) (.tmp 20), none, []⟩,
 ⟨(some 7), .mv (.tmp 21), none, []⟩])
 (.seq
 (.reg [
 ⟨(some 22), .mv (.tmp 7), none, []⟩,
 ⟨(some 23), .mv (.tmp 2), none, []⟩,
 ⟨(some 24), .app 5 1 1 (.tmp 22) (.tmp 23), none, []⟩,
 ⟨(some 6), .mv (.tmp 24), none, []⟩])
 .ret))))))
def c_update_body : AF := ⟨b_update_body, 25, [.tmp 6]⟩
theorem p_update_body : prepFunc Try.prog 44 = some c_update_body ∧ hasBody Try.prog 44 = true := ⟨by kernel_rfl, by kernel_rfl⟩
def b_update_prefixes : AC :=
 (.seq
 (.reg [
 ⟨(some 2), .mv (.val (.slice .full 0 [])), none, []⟩])
 (.seq
 (.reg [
 ⟨(some 3), .mv (.val (.slice .full 0 [])), none, []⟩])
 (.seq
 (.seq
 (.reg [
 ⟨(some 6), .mv (.tmp 0), none, []⟩,
 ⟨(some 7), .len (.tmp 6), none, []⟩,
 ⟨(some 8), .mv (.val (.int .i64 0)), none, []⟩])
 (.block 0
 (.loop
 (.seq
 (.reg [
 ⟨(some 9), .bin .lss (.tmp 8) (.tmp 7), none, []⟩])
 (.seq
 (.cond (.tmp 9)
 .skip
 (.exit 0))
 (.seq
 (.block 1
 (.seq
 (.reg [
 ⟨(some 10), .idxA 2 (.tmp 6) (.tmp 8), none, []⟩,
 ⟨(some 11), .ld (some 2) (.tmp 10), none, []⟩,
 ⟨(some 5), .box 48 2 (.val (.agg [(.int .i64 0), (.int .i64 0)])), none, []⟩,
 ⟨none, .st 2 (.tmp 5) (.tmp 11), none, []⟩])
 (.reg [
 ⟨(some 12), .mv (.tmp 3), none, []⟩,
 ⟨(some 13), .ld (some 2) (.tmp 5), none, []⟩,
 ⟨(some 14), .callS 29 [(.val (.slice .full 0 [])), (.tmp 13)], none, []⟩,
 ⟨(some 15), .app 5 1 1 (.tmp 12) (.tmp 14), none, []⟩,
 ⟨(some 3), .mv (.tmp 15), none, []⟩])))
 (.reg [
 ⟨(some 16), .bin .add (.tmp 8) (.val (.int .i64 1)), none, []⟩,
 ⟨(some 8), .mv (.tmp 16), none, []⟩])))))))
 (.seq
 (.reg [
 ⟨(some 17), .mv (.tmp 3), none, []⟩,
 ⟨(some 2), .mv (.tmp 17), none, []⟩])
 .ret))))
def c_update_prefixes : AF := ⟨b_update_prefixes, 18, [.tmp 2]⟩
theorem p_update_prefixes : prepFunc Try.prog 45 = some c_update_prefixes ∧ hasBody Try.prog 45 = true := ⟨by kernel_rfl, by kernel_rfl⟩
def b_update_attributes : AC :=
 (.seq
 (.reg [
 ⟨(some 1), .box 25 4 (.tmp 0), none, []⟩,
 ⟨(some 2), .mv (.val (.slice .full 0 [])), none, []⟩])
 (.seq
 (.reg [
 ⟨(some 3), .mv (.val (.slice .full 0 [])), none, []⟩])
 (.seq
 (.seq
 (.reg [
 ⟨(some 6), .ld (some 4) (.tmp 1), none, []⟩,
 ⟨(some 7), .callS 74 [(.tmp 6)], none, []⟩,
 ⟨(some 8), .len (.tmp 7), none, []⟩,
 ⟨(some 9), .mv (.val (.int .i64 0)), none, []⟩])
 (.block 0
 (.loop
 (.seq
 (.reg [
 ⟨(some 10), .bin .lss (.tmp 9) (.tmp 8), none, []⟩])
 (.seq
 (.cond (.tmp 10)
 .skip
 (.exit 0))
 (.seq
 (.block 1
 (.seq
 (.reg [
 ⟨(some 11), .idxA 3 (.tmp 7) (.tmp 9), none, []⟩,
 ⟨(some 12), .ld (some 3) (.tmp 11), none, []⟩,
 ⟨(some 5), .box 74 3 (.val (.agg [(.int .i64 0), (.int .i64 0), (.slice .full 0 [])])), none, []⟩,
 ⟨none, .st 3 (.tmp 5) (.tmp 12), none, []⟩])
 (.reg [
 ⟨(some 13), .mv (.tmp 3), none, []⟩,
 ⟨(some 14), .ld (some 3) (.tmp 5), none, []⟩,
 ⟨(some 15), .callS 61 [(.tmp 13), (.tmp 14)], none, []⟩,
 ⟨(some 3), .mv (.tmp 15), none, []⟩])))
 (.reg [
 ⟨(some 16), .bin .add (.tmp 9) (.val (.int .i64 1)), none, []⟩,
 ⟨(some 9), .mv (.tmp 16), none, []⟩])))))))
 (.seq
 (.reg [
 ⟨(some 17), .mv (.tmp 3), none, []⟩,
 ⟨(some 2), .mv (.tmp 17), none, []⟩])
 .ret))))
def c_update_attributes : AF := ⟨b_update_attributes, 18, [.tmp 2]⟩
theorem p_update_attributes : prepFunc Try.prog 46 = some c_update_attributes ∧ hasBody Try.prog 46 = true := ⟨by kernel_rfl, by kernel_rfl⟩
def b_ridgewayref08_octets : AC :=
 (.seq
 (.reg [
 ⟨(some 2), .mv (.val (.slice .full 0 [])), none, []⟩])
 (.seq
 (.reg [
 ⟨(some 3), .mv (.val (.slice .full 0 [])), none, []⟩])
 (.seq
 (.seq
 (.reg [
 ⟨(some 4), .mv (.val (.int .i64 0)), none, []⟩])
 (.block 0
 (.loop
 (.seq
 (.seq
 (.reg [
 ⟨(some 5), .mv (.tmp 4), none, []⟩,
 ⟨(some 6), .mv (.tmp 0), none, []⟩,
 ⟨(some 7), .len (.tmp 6), none, []⟩,
 ⟨(some 8), .bin .lss (.tmp 5) (.tmp 7), none, []⟩])
 (.cond (.tmp 8)
 .skip
 (.exit 0)))
 (.seq
 (.block 1
 (.reg [
 ⟨(some 11), .mv (.tmp 3), none, []⟩,
 ⟨(some 12), .mv (.tmp 0), none, []⟩,
 ⟨(some 13), .mv (.tmp 4), none, []⟩,
 ⟨(some 14), .idxA 2 (.tmp 12) (.tmp 13), none, []⟩,
 ⟨(some 15), .ld (some 2) (.tmp 14), none, []⟩,
 ⟨(some 16), .callS 75 [(.tmp 11), (.tmp 15)], none, []⟩,
 ⟨(some 3), .mv (.tmp 16), none, []⟩]))
 (.reg [
 ⟨(some 9), .mv (.tmp 4), none, []⟩,
 ⟨(some 10), .bin .add (.tmp 9) (.val (.int .i64 1)), none, []⟩,
 ⟨(some 4), .mv (.tmp 10), none, []⟩]))))))
 (.seq
 (.reg [
 ⟨(some 17), .mv (.tmp 3), none, []⟩,
 ⟨(some 2), .mv (.tmp 17), none, []⟩])
 .ret))))
def c_ridgewayref08_octets : AF := ⟨b_ridgewayref08_octets, 18, [.tmp 2]⟩
theorem p_ridgewayref08_octets : prepFunc Try.prog 47 = some c_ridgewayref08_octets ∧ hasBody Try.prog 47 = true := ⟨by kernel_rfl, by kernel_rfl⟩
def b_ridgewayref07_Of : AC :=
 (.seq
 (.reg [
 ⟨(some 1), .box 25 4 (.tmp 0), none, []⟩,
 ⟨(some 2), .mv (.val (.slice .full 0 [])), none, []⟩])
 (.seq
 (.seq
 (.reg [
 ⟨(some 6), .ld (some 4) (.tmp 1), none, []⟩,
 ⟨(some 7), .callS 43 [(.tmp 6)], none, []⟩,
 ⟨(some 8), .un .not (.tmp 7), none, []⟩])
 (.cond (.tmp 8)
 (.seq
 (.reg [
 ⟨(some 2), .mv (.val (.slice .full 0 [])), none, []⟩])
 .ret)
 .skip))
 (.seq
 (.reg [
 ⟨(some 3), .mv (.val (.slice .full 0 [])), none, []⟩])
 (.seq
 (.seq
 (.reg [
 ⟨(some 9), .off 1 (.tmp 1), none, []⟩,
 ⟨(some 10), .ld none (.tmp 9), none, []⟩,
 ⟨(some 11), .len (.tmp 10), none, []⟩,
 ⟨(some 12), .bin .gtr (.tmp 11) (.val (.int .i64 0)), none, []⟩])
 (.cond (.tmp 12)
 (.reg [
 ⟨(some 13), .off 1 (.tmp 1), none, []⟩,
 ⟨(some 14), .ld none (.tmp 13), none, []⟩,
 ⟨(some 15), .len (.tmp 14), none, []⟩,
 ⟨(some 16), .conv .u8 (.tmp 15), none, []⟩,
 ⟨(some 17), .lit 5 1 [0] [(.val (.int .u8 2)), (.tmp 16)], none, []⟩,
 ⟨(some 3), .mv (.tmp 17), none, []⟩])
 .skip))
 (.seq
 (.seq
 (.reg [
 ⟨(some 4), .mv (.val (.int .i64 0)), none, []⟩])
 (.block 0
 (.loop
 (.seq
 (.seq
 (.reg [
 ⟨(some 18), .mv (.tmp 4), none, []⟩,
 ⟨(some 19), .off 1 (.tmp 1), none, []⟩,
 ⟨(some 20), .ld none (.tmp 19), none, []⟩,
 ⟨(some 21), .len (.tmp 20), none, []⟩,
 ⟨(some 22), .bin .lss (.tmp 18) (.tmp 21), none, []⟩])
 (.cond (.tmp 22)
 .skip
 (.exit 0)))
 (.seq
 (.block 1
 (.reg [
 ⟨(some 25), .mv (.tmp 3), none, []⟩,
 ⟨(some 26), .off 1 (.tmp 1), none, []⟩,
 ⟨(some 27), .ld none (.tmp 26), none, []⟩,
 ⟨(some 28), .mv (.tmp 4), none, []⟩,
 ⟨(some 29), .idxA 1 (.tmp 27) (.tmp 28), none, []⟩,
 ⟨(some 30), .ld none (.tmp 29), none, []⟩,
 ⟨(some 31), .callS 50 [(.tmp 25), (.tmp 30), (.val (.int .i64 4))], none, []⟩,
 ⟨(some 3), .mv (.tmp 31), none, []⟩]))
 (.reg [
 ⟨(some 23), .mv (.tmp 4), none, []⟩,
 ⟨(some 24), .bin .add (.tmp 23) (.val (.int .i64 1)), none, []⟩,
 ⟨(some 4), .mv (.tmp 24), none, []⟩]))))))
 (.seq
 (.reg [
 ⟨(some 32), .off 0 (.tmp 1), none, []⟩,
 ⟨(some 33), .ld none (.tmp 32), none, []⟩,
 ⟨(some 34), .conv .u8 (.tmp 33), none, []⟩,
 ⟨(some 35), .lit 5 1 [0] [(.tmp 34)], none, []⟩,
 ⟨(some 36), .bld [(.int .i64 0), (.int .i64 0), (.slice .full 0 [])] [(0, 1, (.val (.int .i64 64))), (1, 1, (.val (.int .i64 1))), (2, 1, (.tmp 35))], none, []⟩,
 ⟨(some 37), .mv (.tmp 3), none, []⟩,
 ⟨(some 38), .bld [(.int .i64 0), (.int .i64 0), (.slice .full 0 [])] [(0, 1, (.val (.int .i64 64))), (1, 1, (.val (.int .i64 2))), (2, 1, (.tmp 37))], none, []⟩,
 ⟨(some 39), .off 2 (.tmp 1), none, []⟩,
 ⟨(some 40), .ld none (.tmp 39), none, []⟩,
 ⟨(some 41), .call 50 [(.val (.slice .full 0 [])), (.tmp 40), (.val (.int .i64 4))], none, []⟩,
 ⟨(some 42), .bld [(.int .i64 0), (.int .i64 0), (.slice .full 0 [])] [(0, 1, (.val (.int .i64 64))), (1, 1, (.val (.int .i64 3))), (2, 1, (.tmp 41))], none, []⟩,
 ⟨(some 43), .lit 74 3 [0, 0, 1] [(.tmp 36), (.tmp 38), (.tmp 42)], none, []⟩,
 ⟨(some 5), .mv (.tmp 43), none, []⟩])
 (.seq
 (.seq
 (.reg [
 ⟨(some 44), .off 3 (.tmp 1), none, []⟩,
 ⟨(some 45), .ld none (.tmp 44), none, []⟩,
 ⟨(some 46), .bin .neq (.tmp 45) (.val (.int .i64 0)), none, []⟩])
 (.cond (.tmp 46)
 (.reg [
 ⟨(some 47), .mv (.tmp 5), none, []⟩,
 ⟨(some 48), .off 3 (.tmp 1), none, []⟩,
 ⟨(some 49), .ld none (.tmp 48), none, []⟩,
 ⟨(some 50), .callS 50 [(.val (.slice .full 0 [])), (.tmp 49), (.val (.int .i64 4))], none, []⟩,
 ⟨(some 51), .bld [(.int .i64 0), (.int .i64 0), (.slice .full 0 [])] [(0, 1, (.val (.int .i64 192))), (1, 1, (.val (.int .i64 35))), (2, 1, (.tmp 50))], none, []⟩,
 ⟨(some 52), .lit 74 3 [0, 0, 1] [(.tmp 51)], none, []⟩,
 ⟨(some 53), .app 74 3 40 (.tmp 47) (.tmp 52), none, []⟩,
 ⟨(some 5), .mv (.tmp 53), none, []⟩])
 .skip))
 (.seq
 (.reg [
 ⟨(some 54), .mv (.tmp 5), none, []⟩,
 ⟨(some 2), .mv (.tmp 54), none, []⟩])
 .ret))))))))
def c_ridgewayref07_Of : AF := ⟨b_ridgewayref07_Of, 55, [.tmp 2]⟩
theorem p_ridgewayref07_Of : prepFunc Try.prog 48 = some c_ridgewayref07_Of ∧ hasBody Try.prog 48 = true := ⟨by kernel_rfl, by kernel_rfl⟩
def b_ridgewayref07_Put : AC :=
 (.seq
 (.reg [
 ⟨(some 3), .box 74 3 (.tmp 1), none, []⟩,
 ⟨(some 4), .mv (.val (.slice .full 0 [])), none, []⟩])
 (.seq
 (.reg [
 ⟨(some 7), .lit 5 1 [0] [], none, []⟩,
 ⟨(some 8), .mv (.tmp 0), none, []⟩,
 ⟨(some 9), .app 5 1 1 (.tmp 7) (.tmp 8), none, []⟩,
 ⟨(some 5), .mv (.tmp 9), none, []⟩])
 (.seq
 (.seq
 (.reg [
 ⟨(some 10), .ld (some 3) (.tmp 3), none, []⟩,
 ⟨(some 11), .callS 76 [(.tmp 10)], none, []⟩,
 ⟨(some 12), .un .not (.tmp 11), none, []⟩])
 (.cond (.tmp 12)
 (.seq
 (.reg [
 ⟨(some 13), .mv (.tmp 5), none, []⟩,
 ⟨(some 4), .mv (.tmp 13), none, []⟩])
 .ret)
 .skip))
 (.seq
 (.reg [
 ⟨(some 14), .off 0 (.tmp 3), none, []⟩,
 ⟨(some 15), .ld none (.tmp 14), none, []⟩,
 ⟨(some 16), .off 0 (.tmp 3), none, []⟩,
 ⟨(some 17), .ld none (.tmp 16), none, []⟩,
 ⟨(some 18), .bin .quo (.tmp 17) (.val (.int .i64 16)), none, []⟩,
 ⟨(some 19), .bin .rem (.tmp 18) (.val (.int .i64 2)), none, []⟩,
 ⟨(some 20), .bin .mul (.tmp 19) (.val (.int .i64 16)), none, []⟩,
 ⟨(some 21), .bin .sub (.tmp 15) (.tmp 20), none, []⟩,
 ⟨(some 6), .mv (.tmp 21), none, []⟩])
 (.seq
 (.seq
 (.reg [
 ⟨(some 22), .off 2 (.tmp 3), none, []⟩,
 ⟨(some 23), .ld none (.tmp 22), none, []⟩,
 ⟨(some 24), .len (.tmp 23), none, []⟩,
 ⟨(some 25), .bin .gtr (.tmp 24) (.val (.int .i64 255)), none, []⟩])
 (.cond (.tmp 25)
 (.reg [
 ⟨(some 26), .mv (.tmp 5), none, []⟩,
 ⟨(some 27), .mv (.tmp 6), none, []⟩,
 ⟨(some 28), .bin .add (.tmp 27) (.val (.int .i64 16)), none, []⟩,
 ⟨(some 29), .conv .u8 (.tmp 28), none, []⟩,
 ⟨(some 30), .off 1 (.tmp 3), none, []⟩,
 ⟨(some 31), .ld none (.tmp 30), none, []⟩,
 ⟨(some 32), .conv .u8 (.tmp 31), none, []⟩,
 ⟨(some 33), .off 2 (.tmp 3), none, []⟩,
 ⟨(some 34), .ld none (.tmp 33), none, []⟩,
 ⟨(some 35), .len (.tmp 34), none, []⟩,
 ⟨(some 36), .bin .quo (.tmp 35) (.val (.int .i64 256)), none, []⟩,
 ⟨(some 37), .conv .u8 (.tmp 36), none, []⟩,
 ⟨(some 38), .off 2 (.tmp 3), none, []⟩,
 ⟨(some 39), .ld none (.tmp 38), none, []⟩,
 ⟨(some 40), .len (.tmp 39), none, []⟩,
 ⟨(some 41), .bin .rem (.tmp 40) (.val (.int .i64 256)), none, []⟩,
 ⟨(some 42), .conv .u8 (.tmp 41), none, []⟩,
 ⟨(some 43), .lit 5 1 [0] [(.tmp 29), (.tmp 32), (.tmp 37), (.tmp 42)], none, []⟩,
 ⟨(some 44), .app 5 1 1 (.tmp 26) (.tmp 43), none, []⟩,
 ⟨(some 5), .mv (.tmp 44), none, []⟩])
 (.reg [
 ⟨(some 45), .mv (.tmp 5), none, []⟩,
 ⟨(some 46), .mv (.tmp 6), none, []⟩,
 ⟨(some 47), .conv .u8 (.tmp 46), none, []⟩,
 ⟨(some 48), .off 1 (.tmp 3), none, []⟩,
 ⟨(some 49), .ld none (.tmp 48), none, []⟩,
 ⟨(some 50), .conv .u8 (.tmp 49), none, []⟩,
 ⟨(some 51), .off 2 (.tmp 3), none, []⟩,
 ⟨(some 52), .ld none (.tmp 51), none, []⟩,
 ⟨(some 53), .len (.tmp 52), none, []⟩,
 ⟨(some 54), .conv .u8 (.tmp 53), none, []⟩,
 ⟨(some 55), .lit 5 1 [0] [(.tmp 47), (.tmp 50), (.tmp 54)], none, []⟩,
 ⟨(some 56), .app 5 1 1 (.tmp 45) (.tmp 55), none, []⟩,
 ⟨(some 5), .mv (.tmp 56), none, []⟩])))
 (.seq
 (.reg [
 ⟨(some 57), .mv (.tmp 5), none, []⟩,
 ⟨(some 58), .off 2 (.tmp 3), none, []⟩,
 ⟨(some 59), .ld none (.tmp 58), none, []⟩,
 ⟨(some 60), .app 5 1 1 (.tmp 57) (.tmp 59), none, []⟩,
 ⟨(some 4), .mv (.tmp 60), none, []⟩])
 .ret))))))
def c_ridgewayref07_Put : AF := ⟨b_ridgewayref07_Put, 61, [.tmp 4]⟩
theorem p_ridgewayref07_Put : prepFunc Try.prog 49 = some c_ridgewayref07_Put ∧ hasBody Try.prog 49 = true := ⟨by kernel_rfl, by kernel_rfl⟩
def b_ridgewayref01_Put : AC :=
 (.seq
 (.reg [
 ⟨(some 6), .mv (.val (.slice .full 0 [])), none, []⟩])
 (.seq
 (.reg [
 ⟨(some 9), .lit 5 1 [0] [], none, []⟩,
 ⟨(some 10), .mv (.tmp 0), none, []⟩,
 ⟨(some 11), .app 5 1 1 (.tmp 9) (.tmp 10), none, []⟩,
 ⟨(some 7), .mv (.tmp 11), none, []⟩])
 (.seq
 (.seq
 (.reg [
 ⟨(some 12), .mv (.tmp 2), none, []⟩,
 ⟨(some 13), .bin .lss (.tmp 12) (.val (.int .i64 1)), none, []⟩,
 ⟨(some 14), .mv (.tmp 13), none, []⟩,
 ⟨(some 15), .mv (.tmp 2), some (14, false), []⟩,
 ⟨(some 16), .bin .gtr (.tmp 15) (.val (.int .i64 4)), some (14, false), []⟩,
 ⟨(some 17), .pick (.tmp 14) (.val (.bool true)) (.tmp 16), none, []⟩])
 (.cond (.tmp 17)
 (.seq
 (.reg [
 ⟨(some 18), .mv (.tmp 7), none, []⟩,
 ⟨(some 6), .mv (.tmp 18), none, []⟩])
 .ret)
 .skip))
 (.seq
 (.seq
 (.reg [
 ⟨(some 19), .mv (.tmp 2), none, []⟩,
 ⟨(some 20), .bin .sub (.tmp 19) (.val (.int .i64 1)), none, []⟩,
 ⟨(some 8), .mv (.tmp 20), none, []⟩])
 (.block 0
 (.loop
 (.seq
 (.seq
 (.reg [
 ⟨(some 21), .mv (.tmp 8), none, []⟩,
 ⟨(some 22), .bin .geq (.tmp 21) (.val (.int .i64 0)), none, []⟩])
 (.cond (.tmp 22)
 .skip
 (.exit 0)))
 (.seq
 (.block 1
 (.reg [
 ⟨(some 25), .mv (.tmp 7), none, []⟩,
 ⟨(some 26), .mv (.tmp 1), none, []⟩,
 ⟨(some 27), .mv (.tmp 8), none, []⟩,
 ⟨(some 28), .bin .mul (.val (.int .i64 8)) (.tmp 27), none, []⟩,
 ⟨(some 29), .conv .u64 (.tmp 28), none, []⟩,
 ⟨(some 30), .bin .shr (.tmp 26) (.tmp 29), none, []⟩,
 ⟨(some 31), .conv .u8 (.tmp 30), none, []⟩,
 ⟨(some 32), .lit 5 1 [0] [(.tmp 31)], none, []⟩,
 ⟨(some 33), .app 5 1 1 (.tmp 25) (.tmp 32), none, []⟩,
 ⟨(some 7), .mv (.tmp 33), none, []⟩]))
 (.reg [
 ⟨(some 23), .mv (.tmp 8), none, []⟩,
 ⟨(some 24), .bin .sub (.tmp 23) (.val (.int .i64 1)), none, []⟩,
 ⟨(some 8), .mv (.tmp 24), none, []⟩]))))))
 (.seq
 (.reg [
 ⟨(some 34), .mv (.tmp 7), none, []⟩,
 ⟨(some 6), .mv (.tmp 34), none, []⟩])
 .ret)))))
def c_ridgewayref01_Put : AF := ⟨b_ridgewayref01_Put, 35, [.tmp 6]⟩
theorem p_ridgewayref01_Put : prepFunc Try.prog 50 = some c_ridgewayref01_Put ∧ hasBody Try.prog 50 = true := ⟨by kernel_rfl, by kernel_rfl⟩
def b_update_pack : AC :=
 (.seq
 (.reg [
 ⟨(some 6), .mv (.val (.slice .full 0 [])), none, []⟩])
 (.seq
 (.reg [
 ⟨(some 7), .mv (.val (.slice .full 0 [])), none, []⟩])
 (.seq
 (.reg [
 ⟨(some 14), .callS 55 [(.val (.int .i64 2))], none, []⟩,
 ⟨(some 15), .mv (.tmp 1), none, []⟩,
 ⟨(some 16), .bin .add (.tmp 14) (.tmp 15), none, []⟩,
 ⟨(some 8), .mv (.tmp 16), none, []⟩])
 (.seq
 (.reg [
 ⟨(some 17), .mv (.tmp 8), none, []⟩,
 ⟨(some 9), .box 3 1 (.val (.int .i64 0)), none, []⟩,
 ⟨none, .st 1 (.tmp 9) (.tmp 17), none, []⟩,
 ⟨(some 10), .mv (.val (.int .i64 0)), none, []⟩])
 (.seq
 (.reg [
 ⟨(some 18), .mkclo 77 [(.tmp 9)], none, []⟩,
 ⟨(some 11), .mv (.tmp 18), none, []⟩])
 (.seq
 (.seq
 (.reg [
 ⟨(some 19), .mv (.tmp 0), none, []⟩,
 ⟨(some 20), .len (.tmp 19), none, []⟩,
 ⟨(some 21), .mv (.val (.int .i64 0)), none, []⟩])
 (.block 0
 (.loop
 (.seq
 (.reg [
 ⟨(some 22), .bin .lss (.tmp 21) (.tmp 20), none, []⟩])
 (.seq
 (.cond (.tmp 22)
 .skip
 (.exit 0))
 (.seq
 (.block 1
 (.seq
 (.reg [
 ⟨(some 23), .mv (.tmp 21), none, []⟩,
 ⟨(some 24), .idxA 2 (.tmp 19) (.tmp 21), none, []⟩,
 ⟨(some 25), .ld (some 2) (.tmp 24), none, []⟩,
 ⟨(some 13), .box 48 2 (.val (.agg [(.int .i64 0), (.int .i64 0)])), none, []⟩,
 ⟨(some 12), .mv (.tmp 23), none, []⟩,
 ⟨none, .st 2 (.tmp 13) (.tmp 25), none, []⟩])
 (.seq
 (.reg [
 ⟨(some 26), .mv (.tmp 11), none, []⟩,
 ⟨(some 27), .ld (some 2) (.tmp 13), none, []⟩,
 ⟨(some 28), .callvS (.tmp 26) [(.tmp 27)], none, []⟩,
 ⟨(some 29), .un .not (.tmp 28), none, []⟩])
 (.cond (.tmp 29)
 (.seq
 (.reg [
 ⟨(some 30), .mv (.tmp 7), none, []⟩,
 ⟨(some 31), .mv (.tmp 2), none, []⟩,
 ⟨(some 32), .mv (.tmp 0), none, []⟩,
 ⟨(some 33), .mv (.tmp 10), none, []⟩,
 ⟨(some 34), .mv (.tmp 12), none, []⟩,
 ⟨(some 35), .slc 2 (.tmp 32) (some (.tmp 33)) (some (.tmp 34)) none, none, []⟩,
 ⟨(some 36), .callvS (.tmp 31) [(.tmp 35)], none, []⟩,
 ⟨(some 37), .callS 20 [(.tmp 36)], none, []⟩,
 ⟨(some 38), .lit 30 2 [0, 1] [(.tmp 37)], none, []⟩,
 ⟨(some 39), .app 30 2 32 (.tmp 30) (.tmp 38), none, []⟩,
 ⟨(some 7), .mv (.tmp 39), none, []⟩])
 (.seq
 (.reg [
 ⟨(some 40), .mv (.tmp 8), none, []⟩,
 ⟨(some 41), .mv (.tmp 12), none, []⟩,
 ⟨none, .st 1 (.tmp 9) (.tmp 40), none, []⟩,
 ⟨(some 10), .mv (.tmp 41), none, []⟩])
 (.reg [
 ⟨(some 42), .mv (.tmp 11), none, []⟩,
 ⟨(some 43), .ld (some 2) (.tmp 13), none, []⟩,
 ⟨(some 44), .callvS (.tmp 42) [(.tmp 43)], none, []⟩])))
 .skip))))
 (.reg [
 ⟨(some 45), .bin .add (.tmp 21) (.val (.int .i64 1)), none, []⟩,
 ⟨(some 21), .mv (.tmp 45), none, []⟩])))))))
 (.seq
 (.seq
 (.reg [
 ⟨(some 46), .mv (.tmp 0), none, []⟩,
 ⟨(some 47), .len (.tmp 46), none, []⟩,
 ⟨(some 48), .bin .gtr (.tmp 47) (.val (.int .i64 0)), none, []⟩])
 (.cond (.tmp 48)
 (.reg [
 ⟨(some 49), .mv (.tmp 7), none, []⟩,
 ⟨(some 50), .mv (.tmp 2), none, []⟩,
 ⟨(some 51), .mv (.tmp 0), none, []⟩,
 ⟨(some 52), .mv (.tmp 10), none, []⟩,
 ⟨(some 53), .slc 2 (.tmp 51) (some (.tmp 52)) none none, none, []⟩,
 ⟨(some 54), .callvS (.tmp 50) [(.tmp 53)], none, []⟩,
 ⟨(some 55), .callS 20 [(.tmp 54)], none, []⟩,
 ⟨(some 56), .lit 30 2 [0, 1] [(.tmp 55)], none, []⟩,
 ⟨(some 57), .app 30 2 32 (.tmp 49) (.tmp 56), none, []⟩,
 ⟨(some 7), .mv (.tmp 57), none, []⟩])
 .skip))
 (.seq
 (.reg [
 ⟨(some 58), .mv (.tmp 7), none, []⟩,
 ⟨(some 6), .mv (.tmp 58), none, []⟩])
 .ret))))))))
def c_update_pack : AF := ⟨b_update_pack, 59, [.tmp 6]⟩
theorem p_update_pack : prepFunc Try.prog 51 = some c_update_pack ∧ hasBody Try.prog 51 = true := ⟨by kernel_rfl, by kernel_rfl⟩
def b_update_Pack_1 : AC :=
 (.seq
 (.reg [
 ⟨(some 2), .box 27 6 (.val (.agg [(.slice .full 0 []), (.int .i64 0), (.slice .full 0 []), (.int .i64 0), (.int .i64 0), (.slice .full 0 [])])), none, []⟩])
 (.seq
 (.reg [
 ⟨(some 3), .mv (.tmp 0), none, []⟩,
 ⟨(some 4), .bld [(.slice .full 0 []), (.int .i64 0), (.slice .full 0 []), (.int .i64 0), (.int .i64 0), (.slice .full 0 [])] [(0, 1, (.tmp 3))], none, []⟩,
 ⟨none, .st 6 (.tmp 2) (.tmp 4), none, []⟩])
 .ret))
def c_update_Pack_1 : AF := ⟨b_update_Pack_1, 5, [.cell 2 (some 6)]⟩
theorem p_update_Pack_1 : prepFunc Try.prog 52 = some c_update_Pack_1 ∧ hasBody Try.prog 52 = true := ⟨by kernel_rfl, by kernel_rfl⟩
def b_update_Pack_2 : AC :=
 (.seq
 (.reg [
 ⟨(some 3), .box 27 6 (.val (.agg [(.slice .full 0 []), (.int .i64 0), (.slice .full 0 []), (.int .i64 0), (.int .i64 0), (.slice .full 0 [])])), none, []⟩])
 (.seq
 (.reg [
 ⟨(some 4), .off 1 (.tmp 1), none, []⟩,
 ⟨(some 5), .ld (some 4) (.tmp 4), none, []⟩,
 ⟨(some 6), .mv (.tmp 0), none, []⟩,
 ⟨(some 7), .bld [(.slice .full 0 []), (.int .i64 0), (.slice .full 0 []), (.int .i64 0), (.int .i64 0), (.slice .full 0 [])] [(1, 4, (.tmp 5)), (5, 1, (.tmp 6))], none, []⟩,
 ⟨none, .st 6 (.tmp 3) (.tmp 7), none, []⟩])
 .ret))
def c_update_Pack_2 : AF := ⟨b_update_Pack_2, 8, [.cell 3 (some 6)]⟩
theorem p_update_Pack_2 : prepFunc Try.prog 53 = some c_update_Pack_2 ∧ hasBody Try.prog 53 = true := ⟨by kernel_rfl, by kernel_rfl⟩
def b_msg_Least : AC :=
 (.seq
 (.reg [
 ⟨(some 2), .mv (.val (.int .i64 0)), none, []⟩])
 (.seq
 (.reg [
 ⟨(some 3), .mv (.val (.int .i64 0)), none, []⟩])
 (.seq
 (.seq
 (.reg [
 ⟨(some 4), .mv (.tmp 0), none, []⟩])
 (.block 0
 (.seq
 (.block 4
 (.seq
 (.block 3
 (.seq
 (.block 2
 (.seq
 (.block 1
 (.seq
 (.seq
 (.seq
 (.reg [
 ⟨(some 6), .bin .eql (.tmp 4) (.val (.int .i64 1)), none, []⟩,
 ⟨(some 5), .mv (.tmp 6), none, []⟩])
 (.cond (.tmp 5)
 (.exit 1)
 .skip))
 (.seq
 (.seq
 (.reg [
 ⟨(some 8), .bin .eql (.tmp 4) (.val (.int .i64 2)), none, []⟩,
 ⟨(some 7), .mv (.tmp 8), none, []⟩])
 (.cond (.tmp 7)
 (.exit 2)
 .skip))
 (.seq
 (.seq
 (.reg [
 ⟨(some 10), .bin .eql (.tmp 4) (.val (.int .i64 3)), none, []⟩,
 ⟨(some 9), .mv (.tmp 10), none, []⟩])
 (.cond (.tmp 9)
 (.exit 3)
 .skip))
 (.seq
 (.reg [
 ⟨(some 12), .bin .eql (.tmp 4) (.val (.int .i64 4)), none, []⟩,
 ⟨(some 11), .mv (.tmp 12), none, []⟩])
 (.cond (.tmp 11)
 (.exit 4)
 .skip)))))
 (.exit 0)))
 (.reg [
 ⟨(some 13), .mv (.tmp 3), none, []⟩,
 ⟨(some 14), .bin .add (.tmp 13) (.val (.int .i64 6)), none, []⟩,
 ⟨(some 3), .mv (.tmp 14), none, []⟩])))
 (.reg [
 ⟨(some 15), .mv (.tmp 3), none, []⟩,
 ⟨(some 16), .bin .add (.tmp 15) (.val (.int .i64 2)), none, []⟩,
 ⟨(some 3), .mv (.tmp 16), none, []⟩])))
 (.reg [
 ⟨(some 17), .mv (.tmp 3), none, []⟩,
 ⟨(some 18), .bin .add (.tmp 17) (.val (.int .i64 2)), none, []⟩,
 ⟨(some 3), .mv (.tmp 18), none, []⟩])))
 (.seq
 (.reg [
 ⟨(some 19), .mv (.tmp 3), none, []⟩,
 ⟨(some 20), .bin .add (.tmp 19) (.val (.int .i64 19)), none, []⟩,
 ⟨(some 3), .mv (.tmp 20), none, []⟩])
 (.exit 0)))))
 (.seq
 (.reg [
 ⟨(some 21), .mv (.tmp 3), none, []⟩,
 ⟨(some 2), .mv (.tmp 21), none, []⟩])
 .ret))))
def c_msg_Least : AF := ⟨b_msg_Least, 22, [.tmp 2]⟩
theorem p_msg_Least : prepFunc Try.prog 55 = some c_msg_Least ∧ hasBody Try.prog 55 = true := ⟨by kernel_rfl, by kernel_rfl⟩
def b_msg_wrong : AC :=
 (.seq
 (.reg [
 ⟨(some 4), .mv (.val (.bool false)), none, []⟩])
 (.seq
 (.reg [
 ⟨(some 5), .mv (.tmp 1), none, []⟩,
 ⟨(some 6), .mv (.tmp 0), none, []⟩,
 ⟨(some 7), .callS 55 [(.tmp 6)], none, []⟩,
 ⟨(some 8), .bin .lss (.tmp 5) (.tmp 7), none, []⟩,
 ⟨(some 9), .mv (.tmp 8), none, []⟩,
 ⟨(some 10), .mv (.tmp 0), some (9, false), []⟩,
 ⟨(some 11), .bin .eql (.tmp 10) (.val (.int .i64 4)), some (9, false), []⟩,
 ⟨(some 12), .mv (.tmp 11), some (9, false), []⟩,
 ⟨(some 13), .mv (.tmp 1), some (12, true), []⟩,
 ⟨(some 14), .bin .neq (.tmp 13) (.val (.int .i64 19)), some (12, true), []⟩,
 ⟨(some 15), .pick (.tmp 12) (.tmp 14) (.val (.bool false)), some (9, false), []⟩,
 ⟨(some 16), .pick (.tmp 9) (.val (.bool true)) (.tmp 15), none, []⟩,
 ⟨(some 4), .mv (.tmp 16), none, []⟩])
 .ret))
def c_msg_wrong : AF := ⟨b_msg_wrong, 17, [.tmp 4]⟩
theorem p_msg_wrong : prepFunc Try.prog 56 = some c_msg_wrong ∧ hasBody Try.prog 56 = true := ⟨by kernel_rfl, by kernel_rfl⟩
def b_prefix_Mask : AC :=
 (.seq
 (.reg [
 ⟨(some 4), .mv (.val (.int .i64 0)), none, []⟩])
 (.seq
 (.reg [
 ⟨(some 6), .mv (.tmp 1), none, []⟩,
 ⟨(some 7), .mx (.tmp 6) (.val (.int .i64 0)), none, []⟩,
 ⟨(some 8), .mn (.tmp 7) (.val (.int .i64 32)), none, []⟩,
 ⟨(some 9), .bin .sub (.val (.int .i64 32)) (.tmp 8), none, []⟩,
 ⟨(some 5), .mv (.tmp 9), none, []⟩])
 (.seq
 (.reg [
 ⟨(some 10), .mv (.tmp 0), none, []⟩,
 ⟨(some 11), .bin .and (.tmp 10) (.val (.int .i64 4294967295)), none, []⟩,
 ⟨(some 12), .mv (.tmp 5), none, []⟩,
 ⟨(some 13), .bin .shr (.tmp 11) (.tmp 12), none, []⟩,
 ⟨(some 14), .mv (.tmp 5), none, []⟩,
 ⟨(some 15), .bin .shl (.tmp 13) (.tmp 14), none, []⟩,
 ⟨(some 4), .mv (.tmp 15), none, []⟩])
 .ret)))
def c_prefix_Mask : AF := ⟨b_prefix_Mask, 16, [.tmp 4]⟩
theorem p_prefix_Mask : prepFunc Try.prog 57 = some c_prefix_Mask ∧ hasBody Try.prog 57 = true := ⟨by kernel_rfl, by kernel_rfl⟩
def b_prefix_size : AC :=
 (.seq
 (.reg [
 ⟨(some 2), .mv (.val (.int .i64 0)), none, []⟩])
 (.seq
 (.reg [
 ⟨(some 3), .mv (.tmp 0), none, []⟩,
 ⟨(some 4), .bin .add (.tmp 3) (.val (.int .i64 7)), none, []⟩,
 ⟨(some 5), .bin .quo (.tmp 4) (.val (.int .i64 8)), none, []⟩,
 ⟨(some 2), .mv (.tmp 5), none, []⟩])
 .ret))
def c_prefix_size : AF := ⟨b_prefix_size, 6, [.tmp 2]⟩
theorem p_prefix_size : prepFunc Try.prog 58 = some c_prefix_size ∧ hasBody Try.prog 58 = true := ⟨by kernel_rfl, by kernel_rfl⟩
def b_attr_Get : AC :=
 (.seq
 (.reg [
 ⟨(some 2), .box 74 3 (.val (.agg [(.int .i64 0), (.int .i64 0), (.slice .full 0 [])])), none, []⟩,
 ⟨(some 3), .mv (.val (.slice .full 0 [])), none, []⟩,
 ⟨(some 4), .mv (.val (.bool false)), none, []⟩])
 (.seq
 (.reg [
 ⟨(some 16), .mv (.tmp 0), none, []⟩,
 ⟨(some 17), .callS 63 [(.tmp 16), (.val (.int .i64 1))], none, []⟩,
 ⟨(some 15), .mv (.tmp 17), none, []⟩,
 ⟨(some 18), .ext (.tmp 15) 0, none, []⟩,
 ⟨(some 19), .ext (.tmp 15) 1, none, []⟩,
 ⟨(some 20), .ext (.tmp 15) 2, none, []⟩,
 ⟨(some 5), .mv (.tmp 18), none, []⟩,
 ⟨(some 0), .mv (.tmp 19), none, []⟩,
 ⟨(some 6), .mv (.tmp 20), none, []⟩])
 (.seq
 (.reg [
 ⟨(some 22), .mv (.tmp 0), none, []⟩,
 ⟨(some 23), .callS 63 [(.tmp 22), (.val (.int .i64 1))], none, []⟩,
 ⟨(some 21), .mv (.tmp 23), none, []⟩,
 ⟨(some 24), .ext (.tmp 21) 0, none, []⟩,
 ⟨(some 25), .ext (.tmp 21) 1, none, []⟩,
 ⟨(some 26), .ext (.tmp 21) 2, none, []⟩,
 ⟨(some 7), .mv (.tmp 24), none, []⟩,
 ⟨(some 0), .mv (.tmp 25), none, []⟩,
 ⟨(some 8), .mv (.tmp 26), none, []⟩])
 (.seq
 (.reg [
 ⟨(some 9), .mv (.val (.int .i64 1)), none, []⟩])
 (.seq
 (.seq
 (.reg [
 ⟨(some 27), .mv (.tmp 5), none, []⟩,
 ⟨(some 28), .bin .and (.tmp 27) (.val (.int .i64 16)), none, []⟩,
 ⟨(some 29), .bin .neq (.tmp 28) (.val (.int .i64 0)), none, []⟩])
 (.cond (.tmp 29)
 (.reg [
 ⟨(some 9), .mv (.val (.int .i64 2)), none, []⟩])
 .skip))
 (.seq
 (.reg [
 ⟨(some 31), .mv (.tmp 0), none, []⟩,
 ⟨(some 32), .mv (.tmp 9), none, []⟩,
 ⟨(some 33), .callS 63 [(.tmp 31), (.tmp 32)], none, []⟩,
 ⟨(some 30), .mv (.tmp 33), none, []⟩,
 ⟨(some 34), .ext (.tmp 30) 0, none, []⟩,
 ⟨(some 35), .ext (.tmp 30) 1, none, []⟩,
 ⟨(some 36), .ext (.tmp 30) 2, none, []⟩,
 ⟨(some 10), .mv (.tmp 34), none, []⟩,
 ⟨(some 0), .mv (.tmp 35), none, []⟩,
 ⟨(some 11), .mv (.tmp 36), none, []⟩])
 (.seq
 (.reg [
 ⟨(some 38), .mv (.tmp 0), none, []⟩,
 ⟨(some 39), .mv (.tmp 10), none, []⟩,
 ⟨(some 40), .callS 64 [(.tmp 38), (.tmp 39)], none, []⟩,
 ⟨(some 37), .mv (.tmp 40), none, []⟩,
 ⟨(some 41), .ext (.tmp 37) 0, none, []⟩,
 ⟨(some 42), .ext (.tmp 37) 1, none, []⟩,
 ⟨(some 43), .ext (.tmp 37) 2, none, []⟩,
 ⟨(some 12), .mv (.tmp 41), none, []⟩,
 ⟨(some 13), .mv (.tmp 42), none, []⟩,
 ⟨(some 14), .mv (.tmp 43), none, []⟩])
 (.seq
 (.seq
 (.reg [
 ⟨(some 44), .mv (.tmp 11), none, []⟩,
 ⟨(some 45), .un .not (.tmp 44), none, []⟩,
 ⟨(some 46), .mv (.tmp 45), none, []⟩,
 ⟨(some 47), .mv (.tmp 14), some (46, false), []⟩,
 ⟨(some 48), .un .not (.tmp 47), some (46, false), []⟩,
 ⟨(some 49), .pick (.tmp 46) (.val (.bool true)) (.tmp 48), none, []⟩])
 (.cond (.tmp 49)
 (.seq
 (.reg [
 ⟨(some 50), .bld [(.int .i64 0), (.int .i64 0), (.slice .full 0 [])] [], none, []⟩,
 ⟨none, .st 3 (.tmp 2) (.tmp 50), none, []⟩,
 ⟨(some 3), .mv (.val (.slice .full 0 [])), none, []⟩,
 ⟨(some 4), .mv (.val (.bool false)), none, []⟩])
 .ret)
 .skip))
 (.seq
 (.reg [
 ⟨(some 51), .mv (.tmp 5), none, []⟩,
 ⟨(some 52), .mv (.tmp 7), none, []⟩,
 ⟨(some 53), .mv (.tmp 12), none, []⟩,
 ⟨(some 54), .bld [(.int .i64 0), (.int .i64 0), (.slice .full 0 [])] [(0, 1, (.tmp 51)), (1, 1, (.tmp 52)), (2, 1, (.tmp 53))], none, []⟩,
 ⟨(some 55), .mv (.tmp 13), none, []⟩,
 ⟨none, .st 3 (.tmp 2) (.tmp 54), none, []⟩,
 ⟨(some 3), .mv (.tmp 55), none, []⟩,
 ⟨(some 4), .mv (.val (.bool true)), none, []⟩])
 .ret)))))))))
def c_attr_Get : AF := ⟨b_attr_Get, 56, [.cell 2 (some 3), .tmp 3, .tmp 4]⟩
theorem p_attr_Get : prepFunc Try.prog 59 = some c_attr_Get ∧ hasBody Try.prog 59 = true := ⟨by kernel_rfl, by kernel_rfl⟩
def b_attr_fatal : AC :=
 (.seq
 (.reg [
 ⟨(some 1), .box 74 3 (.tmp 0), none, []⟩,
 ⟨(some 2), .mv (.val (.bool false)), none, []⟩])
 (.seq
 (.reg [
 ⟨(some 4), .off 1 (.tmp 1), none, []⟩,
 ⟨(some 5), .ld none (.tmp 4), none, []⟩,
 ⟨(some 6), .bin .geq (.tmp 5) (.val (.int .i64 1)), none, []⟩,
 ⟨(some 7), .mv (.tmp 6), none, []⟩,
 ⟨(some 8), .off 1 (.tmp 1), some (7, true), []⟩,
 ⟨(some 9), .ld none (.tmp 8), some (7, true), []⟩,
 ⟨(some 10), .bin .leq (.tmp 9) (.val (.int .i64 7)), some (7, true), []⟩,
 ⟨(some 11), .pick (.tmp 7) (.tmp 10) (.val (.bool false)), none, []⟩,
 ⟨(some 12), .mv (.tmp 11), none, []⟩,
 ⟨(some 13), .off 1 (.tmp 1), some (12, false), []⟩,
 ⟨(some 14), .ld none (.tmp 13), some (12, false), []⟩,
 ⟨(some 15), .bin .eql (.tmp 14) (.val (.int .i64 35)), some (12, false), []⟩,
 ⟨(some 16), .pick (.tmp 12) (.val (.bool true)) (.tmp 15), none, []⟩,
 ⟨(some 3), .mv (.tmp 16), none, []⟩])
 (.seq
 (.reg [
 ⟨(some 17), .mv (.tmp 3), none, []⟩,
 ⟨(some 18), .un .not (.tmp 17), none, []⟩,
 ⟨(some 19), .mv (.tmp 18), none, []⟩,
 ⟨(some 20), .off 0 (.tmp 1), some (19, true), []⟩,
 ⟨(some 21), .ld none (.tmp 20), some (19, true), []⟩,
 ⟨(some 22), .bin .and (.tmp 21) (.val (.int .i64 128)), some (19, true), []⟩,
 ⟨(some 23), .bin .eql (.tmp 22) (.val (.int .i64 0)), some (19, true), []⟩,
 ⟨(some 24), .pick (.tmp 19) (.tmp 23) (.val (.bool false)), none, []⟩,
 ⟨(some 2), .mv (.tmp 24), none, []⟩])
 .ret)))
def c_attr_fatal : AF := ⟨b_attr_fatal, 25, [.tmp 2]⟩
theorem p_attr_fatal : prepFunc Try.prog 60 = some c_attr_fatal ∧ hasBody Try.prog 60 = true := ⟨by kernel_rfl, by kernel_rfl⟩
def b_attr_Put : AC :=
 (.seq
 (.reg [
 ⟨(some 3), .box 74 3 (.tmp 1), none, []⟩,
 ⟨(some 4), .mv (.val (.slice .full 0 [])), none, []⟩])
 (.seq
 (.seq
 (.reg [
 ⟨(some 8), .off 0 (.tmp 3), none, []⟩,
 ⟨(some 9), .ld none (.tmp 8), none, []⟩,
 ⟨(some 10), .callS 79 [(.tmp 9)], none, []⟩,
 ⟨(some 11), .un .not (.tmp 10), none, []⟩,
 ⟨(some 12), .mv (.tmp 11), none, []⟩,
 ⟨(some 13), .off 1 (.tmp 3), some (12, false), []⟩,
 ⟨(some 14), .ld none (.tmp 13), some (12, false), []⟩,
 ⟨(some 15), .callS 79 [(.tmp 14)], some (12, false), []⟩,
 ⟨(some 16), .un .not (.tmp 15), some (12, false), []⟩,
 ⟨(some 17), .pick (.tmp 12) (.val (.bool true)) (.tmp 16), none, []⟩,
 ⟨(some 18), .mv (.tmp 17), none, []⟩,
 ⟨(some 19), .off 2 (.tmp 3), some (18, false), []⟩,
 ⟨(some 20), .ld none (.tmp 19), some (18, false), []⟩,
 ⟨(some 21), .len (.tmp 20), some (18, false), []⟩,
 ⟨(some 22), .bin .gtr (.tmp 21) (.val (.int .i64 65535)), some (18, false), []⟩,
 ⟨(some 23), .pick (.tmp 18) (.val (.bool true)) (.tmp 22), none, []⟩])
 (.cond (.tmp 23)
 (.seq
 (.reg [
 ⟨(some 24), .mv (.tmp 0), none, []⟩,
 ⟨(some 4), .mv (.tmp 24), none, []⟩])
 .ret)
 .skip))
 (.seq
 (.reg [
 ⟨(some 25), .off 0 (.tmp 3), none, []⟩,
 ⟨(some 26), .ld none (.tmp 25), none, []⟩,
 ⟨(some 27), .bin .andNot (.tmp 26) (.val (.int .i64 16)), none, []⟩,
 ⟨(some 5), .mv (.tmp 27), none, []⟩,
 ⟨(some 6), .mv (.val (.int .i64 1)), none, []⟩])
 (.seq
 (.seq
 (.reg [
 ⟨(some 28), .off 2 (.tmp 3), none, []⟩,
 ⟨(some 29), .ld none (.tmp 28), none, []⟩,
 ⟨(some 30), .len (.tmp 29), none, []⟩,
 ⟨(some 31), .bin .gtr (.tmp 30) (.val (.int .i64 255)), none, []⟩])
 (.cond (.tmp 31)
 (.reg [
 ⟨(some 32), .mv (.tmp 5), none, []⟩,
 ⟨(some 33), .bin .or (.tmp 32) (.val (.int .i64 16)), none, []⟩,
 ⟨(some 5), .mv (.tmp 33), none, []⟩,
 ⟨(some 6), .mv (.val (.int .i64 2)), none, []⟩])
 .skip))
 (.seq
 (.reg [
 ⟨(some 34), .mv (.tmp 0), none, []⟩,
 ⟨(some 35), .mv (.tmp 5), none, []⟩,
 ⟨(some 36), .callS 30 [(.tmp 34), (.tmp 35), (.val (.int .i64 1))], none, []⟩,
 ⟨(some 7), .mv (.tmp 36), none, []⟩])
 (.seq
 (.reg [
 ⟨(some 37), .mv (.tmp 7), none, []⟩,
 ⟨(some 38), .off 1 (.tmp 3), none, []⟩,
 ⟨(some 39), .ld none (.tmp 38), none, []⟩,
 ⟨(some 40), .callS 30 [(.tmp 37), (.tmp 39), (.val (.int .i64 1))], none, []⟩,
 ⟨(some 7), .mv (.tmp 40), none, []⟩])
 (.seq
 (.reg [
 ⟨(some 41), .mv (.tmp 7), none, []⟩,
 ⟨(some 42), .off 2 (.tmp 3), none, []⟩,
 ⟨(some 43), .ld none (.tmp 42), none, []⟩,
 ⟨(some 44), .len (.tmp 43), none, []⟩,
 ⟨(some 45), .mv (.tmp 6), none, []⟩,
 ⟨(some 46), .callS 30 [(.tmp 41), (.tmp 44), (.tmp 45)], none, []⟩,
 ⟨(some 7), .mv (.tmp 46), none, []⟩])
 (.seq
 (.reg [
 ⟨(some 47), .mv (.tmp 7), none, []⟩,
 ⟨(some 48), .off 2 (.tmp 3), none, []⟩,
 ⟨(some 49), .ld none (.tmp 48), none, []⟩,
 ⟨(some 50), .app 5 1 1 (.tmp 47) (.tmp 49), none, []⟩,
 ⟨(some 4), .mv (.tmp 50), none, []⟩])
 .ret))))))))
def c_attr_Put : AF := ⟨b_attr_Put, 51, [.tmp 4]⟩
theorem p_attr_Put : prepFunc Try.prog 61 = some c_attr_Put ∧ hasBody Try.prog 61 = true := ⟨by kernel_rfl, by kernel_rfl⟩
def b_attr_kinds : AC :=
 (.seq
 (.reg [
 ⟨(some 0), .mv (.val (.slice .full 0 [])), none, []⟩])
 (.seq
 (.reg [
 ⟨(some 1), .bld [(.int .i64 0), (.int .i64 0), (.bool false), .nilFn] [(0, 1, (.val (.int .i64 1))), (1, 1, (.val (.int .i64 64))), (2, 1, (.val (.bool true))), (3, 1, (.val (.fn 80 [])))], none, []⟩,
 ⟨(some 2), .bld [(.int .i64 0), (.int .i64 0), (.bool false), .nilFn] [(0, 1, (.val (.int .i64 2))), (1, 1, (.val (.int .i64 64))), (2, 1, (.val (.bool true))), (3, 1, (.val (.fn 81 [])))], none, []⟩,
 ⟨(some 3), .bld [(.int .i64 0), (.int .i64 0), (.bool false), .nilFn] [(0, 1, (.val (.int .i64 3))), (1, 1, (.val (.int .i64 64))), (2, 1, (.val (.bool true))), (3, 1, (.val (.fn 82 [])))], none, []⟩,
 ⟨(some 4), .bld [(.int .i64 0), (.int .i64 0), (.bool false), .nilFn] [(0, 1, (.val (.int .i64 4))), (1, 1, (.val (.int .i64 128))), (2, 1, (.val (.bool false))), (3, 1, (.val (.fn 83 [])))], none, []⟩,
 ⟨(some 5), .bld [(.int .i64 0), (.int .i64 0), (.bool false), .nilFn] [(0, 1, (.val (.int .i64 35))), (1, 1, (.val (.int .i64 192))), (2, 1, (.val (.bool false))), (3, 1, (.val (.fn 84 [])))], none, []⟩,
 ⟨(some 6), .lit 90 4 [0, 0, 0, 0] [(.tmp 1), (.tmp 2), (.tmp 3), (.tmp 4), (.tmp 5)], none, []⟩,
 ⟨(some 0), .mv (.tmp 6), none, []⟩])
 .ret))
def c_attr_kinds : AF := ⟨b_attr_kinds, 7, [.tmp 0]⟩
theorem p_attr_kinds : prepFunc Try.prog 62 = some c_attr_kinds ∧ hasBody Try.prog 62 = true := ⟨by kernel_rfl, by kernel_rfl⟩
def b_octet_Get : AC :=
 (.seq
 (.reg [
 ⟨(some 4), .mv (.val (.int .i64 0)), none, []⟩,
 ⟨(some 5), .mv (.val (.slice .full 0 [])), none, []⟩,
 ⟨(some 6), .mv (.val (.bool false)), none, []⟩])
 (.seq
 (.seq
 (.reg [
 ⟨(some 13), .mv (.tmp 1), none, []⟩,
 ⟨(some 14), .bin .lss (.tmp 13) (.val (.int .i64 1)), none, []⟩,
 ⟨(some 15), .mv (.tmp 14), none, []⟩,
 ⟨(some 16), .mv (.tmp 1), some (15, false), []⟩,
 ⟨(some 17), .bin .gtr (.tmp 16) (.val (.int .i64 4)), some (15, false), []⟩,
 ⟨(some 18), .pick (.tmp 15) (.val (.bool true)) (.tmp 17), none, []⟩])
 (.cond (.tmp 18)
 (.seq
 (.reg [
 ⟨(some 4), .mv (.val (.int .i64 0)), none, []⟩,
 ⟨(some 5), .mv (.val (.slice .full 0 [])), none, []⟩,
 ⟨(some 6), .mv (.val (.bool false)), none, []⟩])
 .ret)
 .skip))
 (.seq
 (.reg [
 ⟨(some 20), .mv (.tmp 0), none, []⟩,
 ⟨(some 21), .mv (.tmp 1), none, []⟩,
 ⟨(some 22), .callS 64 [(.tmp 20), (.tmp 21)], none, []⟩,
 ⟨(some 19), .mv (.tmp 22), none, []⟩,
 ⟨(some 23), .ext (.tmp 19) 0, none, []⟩,
 ⟨(some 24), .ext (.tmp 19) 1, none, []⟩,
 ⟨(some 25), .ext (.tmp 19) 2, none, []⟩,
 ⟨(some 7), .mv (.tmp 23), none, []⟩,
 ⟨(some 8), .mv (.tmp 24), none, []⟩,
 ⟨(some 9), .mv (.tmp 25), none, []⟩])
 (.seq
 (.reg [
 ⟨(some 10), .mv (.val (.int .i64 0)), none, []⟩])
 (.seq
 (.seq
 (.reg [
 ⟨(some 26), .mv (.tmp 7), none, []⟩,
 ⟨(some 27), .len (.tmp 26), none, []⟩,
 ⟨(some 28), .mv (.val (.int .i64 0)), none, []⟩])
 (.block 0
 (.loop
 (.seq
 (.reg [
 ⟨(some 29), .bin .lss (.tmp 28) (.tmp 27), none, []⟩])
 (.seq
 (.cond (.tmp 29)
 .skip
 (.exit 0))
 (.seq
 (.block 1
 (.seq
 (.reg [
 ⟨(some 30), .idxA 1 (.tmp 26) (.tmp 28), none, []⟩,
 ⟨(some 31), .ld none (.tmp 30), none, []⟩,
 ⟨(some 12), .mv (.tmp 31), none, []⟩])
 (.reg [
 ⟨(some 32), .mv (.tmp 10), none, []⟩,
 ⟨(some 33), .bin .shl (.tmp 32) (.val (.int .u64 8)), none, []⟩,
 ⟨(some 34), .mv (.tmp 12), none, []⟩,
 ⟨(some 35), .conv .i64 (.tmp 34), none, []⟩,
 ⟨(some 36), .bin .or (.tmp 33) (.tmp 35), none, []⟩,
 ⟨(some 10), .mv (.tmp 36), none, []⟩])))
 (.reg [
 ⟨(some 37), .bin .add (.tmp 28) (.val (.int .i64 1)), none, []⟩,
 ⟨(some 28), .mv (.tmp 37), none, []⟩])))))))
 (.seq
 (.reg [
 ⟨(some 38), .mv (.tmp 10), none, []⟩,
 ⟨(some 39), .mv (.tmp 8), none, []⟩,
 ⟨(some 40), .mv (.tmp 9), none, []⟩,
 ⟨(some 4), .mv (.tmp 38), none, []⟩,
 ⟨(some 5), .mv (.tmp 39), none, []⟩,
 ⟨(some 6), .mv (.tmp 40), none, []⟩])
 .ret))))))
def c_octet_Get : AF := ⟨b_octet_Get, 41, [.tmp 4, .tmp 5, .tmp 6]⟩
theorem p_octet_Get : prepFunc Try.prog 63 = some c_octet_Get ∧ hasBody Try.prog 63 = true := ⟨by kernel_rfl, by kernel_rfl⟩
def b_octet_Take : AC :=
 (.seq
 (.reg [
 ⟨(some 4), .mv (.val (.slice .full 0 [])), none, []⟩,
 ⟨(some 5), .mv (.val (.slice .full 0 [])), none, []⟩,
 ⟨(some 6), .mv (.val (.bool false)), none, []⟩])
 (.seq
 (.seq
 (.reg [
 ⟨(some 7), .mv (.tmp 1), none, []⟩,
 ⟨(some 8), .bin .lss (.tmp 7) (.val (.int .i64 0)), none, []⟩,
 ⟨(some 9), .mv (.tmp 8), none, []⟩,
 ⟨(some 10), .mv (.tmp 1), some (9, false), []⟩,
 ⟨(some 11), .mv (.tmp 0), some (9, false), []⟩,
 ⟨(some 12), .len (.tmp 11), some (9, false), []⟩,
 ⟨(some 13), .bin .gtr (.tmp 10) (.tmp 12), some (9, false), []⟩,
 ⟨(some 14), .pick (.tmp 9) (.val (.bool true)) (.tmp 13), none, []⟩])
 (.cond (.tmp 14)
 (.seq
 (.reg [
 ⟨(some 4), .mv (.val (.slice .full 0 [])), none, []⟩,
 ⟨(some 5), .mv (.val (.slice .full 0 [])), none, []⟩,
 ⟨(some 6), .mv (.val (.bool false)), none, []⟩])
 .ret)
 .skip))
 (.seq
 (.reg [
 ⟨(some 15), .mv (.tmp 0), none, []⟩,
 ⟨(some 16), .mv (.tmp 1), none, []⟩,
 ⟨(some 17), .mv (.tmp 1), none, []⟩,
 ⟨(some 18), .slc 1 (.tmp 15) none (some (.tmp 16)) (some (.tmp 17)), none, []⟩,
 ⟨(some 19), .mv (.tmp 0), none, []⟩,
 ⟨(some 20), .mv (.tmp 1), none, []⟩,
 ⟨(some 21), .slc 1 (.tmp 19) (some (.tmp 20)) none none, none, []⟩,
 ⟨(some 4), .mv (.tmp 18), none, []⟩,
 ⟨(some 5), .mv (.tmp 21), none, []⟩,
 ⟨(some 6), .mv (.val (.bool true)), none, []⟩])
 .ret)))
def c_octet_Take : AF := ⟨b_octet_Take, 22, [.tmp 4, .tmp 5, .tmp 6]⟩
theorem p_octet_Take : prepFunc Try.prog 64 = some c_octet_Take ∧ hasBody Try.prog 64 = true := ⟨by kernel_rfl, by kernel_rfl⟩
def b_prefix_Get : AC :=
 (.seq
 (.reg [
 ⟨(some 2), .box 48 2 (.val (.agg [(.int .i64 0), (.int .i64 0)])), none, []⟩,
 ⟨(some 3), .mv (.val (.slice .full 0 [])), none, []⟩,
 ⟨(some 4), .mv (.val (.bool false)), none, []⟩])
 (.seq
 (.reg [
 ⟨(some 11), .mv (.tmp 0), none, []⟩,
 ⟨(some 12), .callS 63 [(.tmp 11), (.val (.int .i64 1))], none, []⟩,
 ⟨(some 10), .mv (.tmp 12), none, []⟩,
 ⟨(some 13), .ext (.tmp 10) 0, none, []⟩,
 ⟨(some 14), .ext (.tmp 10) 1, none, []⟩,
 ⟨(some 15), .ext (.tmp 10) 2, none, []⟩,
 ⟨(some 5), .mv (.tmp 13), none, []⟩,
 ⟨(some 0), .mv (.tmp 14), none, []⟩,
 ⟨(some 6), .mv (.tmp 15), none, []⟩])
 (.seq
 (.seq
 (.reg [
 ⟨(some 16), .mv (.tmp 6), none, []⟩,
 ⟨(some 17), .un .not (.tmp 16), none, []⟩,
 ⟨(some 18), .mv (.tmp 17), none, []⟩,
 ⟨(some 19), .mv (.tmp 5), some (18, false), []⟩,
 ⟨(some 20), .bin .gtr (.tmp 19) (.val (.int .i64 32)), some (18, false), []⟩,
 ⟨(some 21), .pick (.tmp 18) (.val (.bool true)) (.tmp 20), none, []⟩])
 (.cond (.tmp 21)
 (.seq
 (.reg [
 ⟨(some 22), .bld [(.int .i64 0), (.int .i64 0)] [], none, []⟩,
 ⟨none, .st 2 (.tmp 2) (.tmp 22), none, []⟩,
 ⟨(some 3), .mv (.val (.slice .full 0 [])), none, []⟩,
 ⟨(some 4), .mv (.val (.bool false)), none, []⟩])
 .ret)
 .skip))
 (.seq
 (.reg [
 ⟨(some 23), .mv (.tmp 5), none, []⟩,
 ⟨(some 24), .callS 58 [(.tmp 23)], none, []⟩,
 ⟨(some 7), .mv (.tmp 24), none, []⟩])
 (.seq
 (.seq
 (.reg [
 ⟨(some 25), .mv (.tmp 7), none, []⟩,
 ⟨(some 26), .bin .eql (.tmp 25) (.val (.int .i64 0)), none, []⟩])
 (.cond (.tmp 26)
 (.seq
 (.reg [
 ⟨(some 27), .bld [(.int .i64 0), (.int .i64 0)] [], none, []⟩,
 ⟨(some 28), .mv (.tmp 0), none, []⟩,
 ⟨none, .st 2 (.tmp 2) (.tmp 27), none, []⟩,
 ⟨(some 3), .mv (.tmp 28), none, []⟩,
 ⟨(some 4), .mv (.val (.bool true)), none, []⟩])
 .ret)
 .skip))
 (.seq
 (.reg [
 ⟨(some 30), .mv (.tmp 0), none, []⟩,
 ⟨(some 31), .mv (.tmp 7), none, []⟩,
 ⟨(some 32), .callS 63 [(.tmp 30), (.tmp 31)], none, []⟩,
 ⟨(some 29), .mv (.tmp 32), none, []⟩,
 ⟨(some 33), .ext (.tmp 29) 0, none, []⟩,
 ⟨(some 34), .ext (.tmp 29) 1, none, []⟩,
 ⟨(some 35), .ext (.tmp 29) 2, none, []⟩,
 ⟨(some 8), .mv (.tmp 33), none, []⟩,
 ⟨(some 9), .mv (.tmp 34), none, []⟩,
 ⟨(some 6), .mv (.tmp 35), none, []⟩])
 (.seq
 (.seq
 (.reg [
 ⟨(some 36), .mv (.tmp 6), none, []⟩,
 ⟨(some 37), .un .not (.tmp 36), none, []⟩])
 (.cond (.tmp 37)
 (.seq
 (.reg [
 ⟨(some 38), .bld [(.int .i64 0), (.int .i64 0)] [], none, []⟩,
 ⟨none, .st 2 (.tmp 2) (.tmp 38), none, []⟩,
 ⟨(some 3), .mv (.val (.slice .full 0 [])), none, []⟩,
 ⟨(some 4), .mv (.val (.bool false)), none, []⟩])
 .ret)
 .skip))
 (.seq
 (.reg [
 ⟨(some 39), .mv (.tmp 8), none, []⟩,
 ⟨(some 40), .mv (.tmp 7), none, []⟩,
 ⟨(some 41), .bin .mul (.val (.int .i64 8)) (.tmp 40), none, []⟩,
 ⟨(some 42), .bin .sub (.val (.int .i64 32)) (.tmp 41), none, []⟩,
 ⟨(some 43), .bin .shl (.tmp 39) (.tmp 42), none, []⟩,
 ⟨(some 44), .mv (.tmp 5), none, []⟩,
 ⟨(some 45), .callS 57 [(.tmp 43), (.tmp 44)], none, []⟩,
 ⟨(some 46), .mv (.tmp 5), none, []⟩,
 ⟨(some 47), .bld [(.int .i64 0), (.int .i64 0)] [(0, 1, (.tmp 45)), (1, 1, (.tmp 46))], none, []⟩,
 ⟨(some 48), .mv (.tmp 9), none, []⟩,
 ⟨none, .st 2 (.tmp 2) (.tmp 47), none, []⟩,
 ⟨(some 3), .mv (.tmp 48), none, []⟩,
 ⟨(some 4), .mv (.val (.bool true)), none, []⟩])
 .ret))))))))
def c_prefix_Get : AF := ⟨b_prefix_Get, 49, [.cell 2 (some 2), .tmp 3, .tmp 4]⟩
theorem p_prefix_Get : prepFunc Try.prog 65 = some c_prefix_Get ∧ hasBody Try.prog 65 = true := ⟨by kernel_rfl, by kernel_rfl⟩
def b_ridgewayref03_fits : AC :=
 (.seq
 (.reg [
 ⟨(some 4), .mv (.val (.bool false)), none, []⟩])
 (.seq
 (.reg [
 ⟨(some 5), .mv (.tmp 0), none, []⟩,
 ⟨(some 6), .callS 85 [(.tmp 5)], none, []⟩,
 ⟨(some 7), .bin .gtr (.tmp 6) (.val (.int .i64 0)), none, []⟩,
 ⟨(some 8), .mv (.tmp 7), none, []⟩,
 ⟨(some 9), .mv (.tmp 1), some (8, true), []⟩,
 ⟨(some 10), .mv (.tmp 0), some (8, true), []⟩,
 ⟨(some 11), .callS 85 [(.tmp 10)], some (8, true), []⟩,
 ⟨(some 12), .bin .geq (.tmp 9) (.tmp 11), some (8, true), []⟩,
 ⟨(some 13), .pick (.tmp 8) (.tmp 12) (.val (.bool false)), none, []⟩,
 ⟨(some 14), .mv (.tmp 13), none, []⟩,
 ⟨(some 15), .mv (.tmp 1), some (14, true), []⟩,
 ⟨(some 16), .bin .leq (.tmp 15) (.val (.int .i64 4096)), some (14, true), []⟩,
 ⟨(some 17), .pick (.tmp 14) (.tmp 16) (.val (.bool false)), none, []⟩,
 ⟨(some 18), .mv (.tmp 17), none, []⟩,
 ⟨(some 19), .mv (.tmp 0), some (18, true), []⟩,
 ⟨(some 20), .bin .neq (.tmp 19) (.val (.int .i64 4)), some (18, true), []⟩,
 ⟨(some 21), .mv (.tmp 20), some (18, true), []⟩,
 ⟨(some 22), .mv (.tmp 1), some (21, false), []⟩,
 ⟨(some 23), .bin .eql (.tmp 22) (.val (.int .i64 19)), some (21, false), []⟩,
 ⟨(some 24), .pick (.tmp 21) (.val (.bool true)) (.tmp 23), some (18, true), []⟩,
 ⟨(some 25), .pick (.tmp 18) (.tmp 24) (.val (.bool false)), none, []⟩,
 ⟨(some 4), .mv (.tmp 25), none, []⟩])
 .ret))
def c_ridgewayref03_fits : AF := ⟨b_ridgewayref03_fits, 26, [.tmp 4]⟩
theorem p_ridgewayref03_fits : prepFunc Try.prog 66 = some c_ridgewayref03_fits ∧ hasBody Try.prog 66 = true := ⟨by kernel_rfl, by kernel_rfl⟩
def b_ridgewayref01_Get : AC :=
 (.seq
 (.reg [
 ⟨(some 4), .mv (.val (.int .i64 0)), none, []⟩,
 ⟨(some 5), .mv (.val (.slice .full 0 [])), none, []⟩,
 ⟨(some 6), .mv (.val (.bool false)), none, []⟩])
 (.seq
 (.seq
 (.reg [
 ⟨(some 9), .mv (.tmp 1), none, []⟩,
 ⟨(some 10), .bin .lss (.tmp 9) (.val (.int .i64 1)), none, []⟩,
 ⟨(some 11), .mv (.tmp 10), none, []⟩,
 ⟨(some 12), .mv (.tmp 1), some (11, false), []⟩,
 ⟨(some 13), .bin .gtr (.tmp 12) (.val (.int .i64 4)), some (11, false), []⟩,
 ⟨(some 14), .pick (.tmp 11) (.val (.bool true)) (.tmp 13), none, []⟩,
 ⟨(some 15), .mv (.tmp 14), none, []⟩,
 ⟨(some 16), .mv (.tmp 0), some (15, false), []⟩,
 ⟨(some 17), .len (.tmp 16), some (15, false), []⟩,
 ⟨(some 18), .mv (.tmp 1), some (15, false), []⟩,
 ⟨(some 19), .bin .lss (.tmp 17) (.tmp 18), some (15, false), []⟩,
 ⟨(some 20), .pick (.tmp 15) (.val (.bool true)) (.tmp 19), none, []⟩])
 (.cond (.tmp 20)
 (.seq
 (.reg [
 ⟨(some 4), .mv (.val (.int .i64 0)), none, []⟩,
 ⟨(some 5), .mv (.val (.slice .full 0 [])), none, []⟩,
 ⟨(some 6), .mv (.val (.bool false)), none, []⟩])
 .ret)
 .skip))
 (.seq
 (.reg [
 ⟨(some 7), .mv (.val (.int .i64 0)), none, []⟩])
 (.seq
 (.seq
 (.reg [
 ⟨(some 8), .mv (.val (.int .i64 0)), none, []⟩])
 (.block 0
 (.loop
 (.seq
 (.seq
 (.reg [
 ⟨(some 21), .mv (.tmp 8), none, []⟩,
 ⟨(some 22), .mv (.tmp 1), none, []⟩,
 ⟨(some 23), .bin .lss (.tmp 21) (.tmp 22), none, []⟩])
 (.cond (.tmp 23)
 .skip
 (.exit 0)))
 (.seq
 (.block 1
 (.reg [
 ⟨(some 26), .mv (.tmp 7), none, []⟩,
 ⟨(some 27), .bin .mul (.tmp 26) (.val (.int .i64 256)), none, []⟩,
 ⟨(some 28), .mv (.tmp 0), none, []⟩,
 ⟨(some 29), .mv (.tmp 8), none, []⟩,
 ⟨(some 30), .idxA 1 (.tmp 28) (.tmp 29), none, []⟩,
 ⟨(some 31), .ld none (.tmp 30), none, []⟩,
 ⟨(some 32), .conv .i64 (.tmp 31), none, []⟩,
 ⟨(some 33), .bin .add (.tmp 27) (.tmp 32), none, []⟩,
 ⟨(some 7), .mv (.tmp 33), none, []⟩]))
 (.reg [
 ⟨(some 24), .mv (.tmp 8), none, []⟩,
 ⟨(some 25), .bin .add (.tmp 24) (.val (.int .i64 1)), none, []⟩,
 ⟨(some 8), .mv (.tmp 25), none, []⟩]))))))
 (.seq
 (.reg [
 ⟨(some 34), .mv (.tmp 7), none, []⟩,
 ⟨(some 35), .mv (.tmp 0), none, []⟩,
 ⟨(some 36), .mv (.tmp 1), none, []⟩,
 ⟨(some 37), .slc 1 (.tmp 35) (some (.tmp 36)) none none, none, []⟩,
 ⟨(some 4), .mv (.tmp 34), none, []⟩,
 ⟨(some 5), .mv (.tmp 37), none, []⟩,
 ⟨(some 6), .mv (.val (.bool true)), none, []⟩])
 .ret)))))
def c_ridgewayref01_Get : AF := ⟨b_ridgewayref01_Get, 38, [.tmp 4, .tmp 5, .tmp 6]⟩
theorem p_ridgewayref01_Get : prepFunc Try.prog 67 = some c_ridgewayref01_Get ∧ hasBody Try.prog 67 = true := ⟨by kernel_rfl, by kernel_rfl⟩
def b_ridgewayref01_Take : AC :=
 (.seq
 (.reg [
 ⟨(some 4), .mv (.val (.slice .full 0 [])), none, []⟩,
 ⟨(some 5), .mv (.val (.slice .full 0 [])), none, []⟩,
 ⟨(some 6), .mv (.val (.bool false)), none, []⟩])
 (.seq
 (.seq
 (.reg [
 ⟨(some 7), .mv (.tmp 1), none, []⟩,
 ⟨(some 8), .bin .lss (.tmp 7) (.val (.int .i64 0)), none, []⟩,
 ⟨(some 9), .mv (.tmp 8), none, []⟩,
 ⟨(some 10), .mv (.tmp 0), some (9, false), []⟩,
 ⟨(some 11), .len (.tmp 10), some (9, false), []⟩,
 ⟨(some 12), .mv (.tmp 1), some (9, false), []⟩,
 ⟨(some 13), .bin .lss (.tmp 11) (.tmp 12), some (9, false), []⟩,
 ⟨(some 14), .pick (.tmp 9) (.val (.bool true)) (.tmp 13), none, []⟩])
 (.cond (.tmp 14)
 (.seq
 (.reg [
 ⟨(some 4), .mv (.val (.slice .full 0 [])), none, []⟩,
 ⟨(some 5), .mv (.val (.slice .full 0 [])), none, []⟩,
 ⟨(some 6), .mv (.val (.bool false)), none, []⟩])
 .ret)
 .skip))
 (.seq
 (.reg [
 ⟨(some 15), .mv (.tmp 0), none, []⟩,
 ⟨(some 16), .mv (.tmp 1), none, []⟩,
 ⟨(some 17), .slc 1 (.tmp 15) none (some (.tmp 16)) none, none, []⟩,
 ⟨(some 18), .mv (.tmp 0), none, []⟩,
 ⟨(some 19), .mv (.tmp 1), none, []⟩,
 ⟨(some 20), .slc 1 (.tmp 18) (some (.tmp 19)) none none, none, []⟩,
 ⟨(some 4), .mv (.tmp 17), none, []⟩,
 ⟨(some 5), .mv (.tmp 20), none, []⟩,
 ⟨(some 6), .mv (.val (.bool true)), none, []⟩])
 .ret)))
def c_ridgewayref01_Take : AF := ⟨b_ridgewayref01_Take, 21, [.tmp 4, .tmp 5, .tmp 6]⟩
theorem p_ridgewayref01_Take : prepFunc Try.prog 68 = some c_ridgewayref01_Take ∧ hasBody Try.prog 68 = true := ⟨by kernel_rfl, by kernel_rfl⟩
def b_ridgewayref02_Get : AC :=
 (.seq
 (.reg [
 ⟨(some 2), .box 48 2 (.val (.agg [(.int .i64 0), (.int .i64 0)])), none, []⟩,
 ⟨(some 3), .mv (.val (.slice .full 0 [])), none, []⟩,
 ⟨(some 4), .mv (.val (.bool false)), none, []⟩])
 (.seq
 (.seq
 (.reg [
 ⟨(some 11), .mv (.tmp 0), none, []⟩,
 ⟨(some 12), .len (.tmp 11), none, []⟩,
 ⟨(some 13), .bin .eql (.tmp 12) (.val (.int .i64 0)), none, []⟩,
 ⟨(some 14), .mv (.tmp 13), none, []⟩,
 ⟨(some 15), .mv (.tmp 0), some (14, false), []⟩,
 ⟨(some 16), .idxA 1 (.tmp 15) (.val (.int .i64 0)), some (14, false), []⟩,
 ⟨(some 17), .ld none (.tmp 16), some (14, false), []⟩,
 ⟨(some 18), .bin .gtr (.tmp 17) (.val (.int .u8 32)), some (14, false), []⟩,
 ⟨(some 19), .pick (.tmp 14) (.val (.bool true)) (.tmp 18), none, []⟩,
 ⟨(some 20), .mv (.tmp 19), none, []⟩,
 ⟨(some 21), .mv (.tmp 0), some (20, false), []⟩,
 ⟨(some 22), .len (.tmp 21), some (20, false), []⟩,
 ⟨(some 23), .mv (.tmp 0), some (20, false), []⟩,
 ⟨(some 24), .idxA 1 (.tmp 23) (.val (.int .i64 0)), some (20, false), []⟩,
 ⟨(some 25), .ld none (.tmp 24), some (20, false), []⟩,
 ⟨(some 26), .conv .i64 (.tmp 25), some (20, false), []⟩,
 ⟨(some 27), .bin .add (.tmp 26) (.val (.int .i64 7)), some (20, false), []⟩,
 ⟨(some 28), .bin .quo (.tmp 27) (.val (.int .i64 8)), some (20, false), []⟩,
 ⟨(some 29), .bin .add (.val (.int .i64 1)) (.tmp 28), some (20, false), []⟩,
 ⟨(some 30), .bin .lss (.tmp 22) (.tmp 29), some (20, false), []⟩,
 ⟨(some 31), .pick (.tmp 20) (.val (.bool true)) (.tmp 30), none, []⟩])
 (.cond (.tmp 31)
 (.seq
 (.reg [
 ⟨(some 32), .bld [(.int .i64 0), (.int .i64 0)] [], none, []⟩,
 ⟨none, .st 2 (.tmp 2) (.tmp 32), none, []⟩,
 ⟨(some 3), .mv (.val (.slice .full 0 [])), none, []⟩,
 ⟨(some 4), .mv (.val (.bool false)), none, []⟩])
 .ret)
 .skip))
 (.seq
 (.reg [
 ⟨(some 33), .mv (.tmp 0), none, []⟩,
 ⟨(some 34), .idxA 1 (.tmp 33) (.val (.int .i64 0)), none, []⟩,
 ⟨(some 35), .ld none (.tmp 34), none, []⟩,
 ⟨(some 36), .conv .i64 (.tmp 35), none, []⟩,
 ⟨(some 5), .mv (.tmp 36), none, []⟩])
 (.seq
 (.reg [
 ⟨(some 6), .mv (.val (.int .i64 0)), none, []⟩])
 (.seq
 (.seq
 (.reg [
 ⟨(some 7), .mv (.val (.int .i64 0)), none, []⟩])
 (.block 0
 (.loop
 (.seq
 (.seq
 (.reg [
 ⟨(some 37), .mv (.tmp 7), none, []⟩,
 ⟨(some 38), .bin .lss (.tmp 37) (.val (.int .i64 4)), none, []⟩])
 (.cond (.tmp 38)
 .skip
 (.exit 0)))
 (.seq
 (.block 1
 (.seq
 (.reg [
 ⟨(some 41), .mv (.tmp 6), none, []⟩,
 ⟨(some 42), .bin .mul (.tmp 41) (.val (.int .i64 256)), none, []⟩,
 ⟨(some 6), .mv (.tmp 42), none, []⟩])
 (.seq
 (.reg [
 ⟨(some 43), .mv (.tmp 7), none, []⟩,
 ⟨(some 44), .mv (.tmp 5), none, []⟩,
 ⟨(some 45), .bin .add (.tmp 44) (.val (.int .i64 7)), none, []⟩,
 ⟨(some 46), .bin .quo (.tmp 45) (.val (.int .i64 8)), none, []⟩,
 ⟨(some 47), .bin .lss (.tmp 43) (.tmp 46), none, []⟩])
 (.cond (.tmp 47)
 (.reg [
 ⟨(some 48), .mv (.tmp 6), none, []⟩,
 ⟨(some 49), .mv (.tmp 0), none, []⟩,
 ⟨(some 50), .mv (.tmp 7), none, []⟩,
 ⟨(some 51), .bin .add (.val (.int .i64 1)) (.tmp 50), none, []⟩,
 ⟨(some 52), .idxA 1 (.tmp 49) (.tmp 51), none, []⟩,
 ⟨(some 53), .ld none (.tmp 52), none, []⟩,
 ⟨(some 54), .conv .i64 (.tmp 53), none, []⟩,
 ⟨(some 55), .bin .add (.tmp 48) (.tmp 54), none, []⟩,
 ⟨(some 6), .mv (.tmp 55), none, []⟩])
 .skip))))
 (.reg [
 ⟨(some 39), .mv (.tmp 7), none, []⟩,
 ⟨(some 40), .bin .add (.tmp 39) (.val (.int .i64 1)), none, []⟩,
 ⟨(some 7), .mv (.tmp 40), none, []⟩]))))))
 (.seq
 (.reg [
 ⟨(some 57), .mv (.tmp 0), none, []⟩,
 ⟨(some 58), .mv (.tmp 5), none, []⟩,
 ⟨(some 59), .bin .add (.tmp 58) (.val (.int .i64 7)), none, []⟩,
 ⟨(some 60), .bin .quo (.tmp 59) (.val (.int .i64 8)), none, []⟩,
 ⟨(some 61), .bin .add (.val (.int .i64 1)) (.tmp 60), none, []⟩,
 ⟨(some 62), .callS 68 [(.tmp 57), (.tmp 61)], none, []⟩,
 ⟨(some 56), .mv (.tmp 62), none, []⟩,
 ⟨(some 63), .ext (.tmp 56) 0, none, []⟩,
 ⟨(some 64), .ext (.tmp 56) 1, none, []⟩,
 ⟨(some 65), .ext (.tmp 56) 2, none, []⟩,
 ⟨(some 8), .mv (.tmp 63), none, []⟩,
 ⟨(some 9), .mv (.tmp 64), none, []⟩,
 ⟨(some 10), .mv (.tmp 65), none, []⟩])
 (.seq
 (.reg [
 ⟨(some 66), .mv (.tmp 6), none, []⟩,
 ⟨(some 67), .mv (.tmp 5), none, []⟩,
 ⟨(some 68), .callS 86 [(.tmp 66), (.tmp 67)], none, []⟩,
 ⟨(some 69), .mv (.tmp 5), none, []⟩,
 ⟨(some 70), .bld [(.int .i64 0), (.int .i64 0)] [(0, 1, (.tmp 68)), (1, 1, (.tmp 69))], none, []⟩,
 ⟨(some 71), .mv (.tmp 9), none, []⟩,
 ⟨none, .st 2 (.tmp 2) (.tmp 70), none, []⟩,
 ⟨(some 3), .mv (.tmp 71), none, []⟩,
 ⟨(some 4), .mv (.val (.bool true)), none, []⟩])
 .ret)))))))
def c_ridgewayref02_Get : AF := ⟨b_ridgewayref02_Get, 72, [.cell 2 (some 2), .tmp 3, .tmp 4]⟩
theorem p_ridgewayref02_Get : prepFunc Try.prog 69 = some c_ridgewayref02_Get ∧ hasBody Try.prog 69 = true := ⟨by kernel_rfl, by kernel_rfl⟩
def b_ridgewayref07_Get : AC :=
 (.seq
 (.reg [
 ⟨(some 2), .box 74 3 (.val (.agg [(.int .i64 0), (.int .i64 0), (.slice .full 0 [])])), none, []⟩,
 ⟨(some 3), .mv (.val (.slice .full 0 [])), none, []⟩,
 ⟨(some 4), .mv (.val (.bool false)), none, []⟩])
 (.seq
 (.seq
 (.reg [
 ⟨(some 7), .mv (.tmp 0), none, []⟩,
 ⟨(some 8), .len (.tmp 7), none, []⟩,
 ⟨(some 9), .bin .lss (.tmp 8) (.val (.int .i64 3)), none, []⟩])
 (.cond (.tmp 9)
 (.seq
 (.reg [
 ⟨(some 10), .bld [(.int .i64 0), (.int .i64 0), (.slice .full 0 [])] [], none, []⟩,
 ⟨none, .st 3 (.tmp 2) (.tmp 10), none, []⟩,
 ⟨(some 3), .mv (.val (.slice .full 0 [])), none, []⟩,
 ⟨(some 4), .mv (.val (.bool false)), none, []⟩])
 .ret)
 .skip))
 (.seq
 (.reg [
 ⟨(some 5), .mv (.val (.int .i64 3)), none, []⟩])
 (.seq
 (.reg [
 ⟨(some 11), .mv (.tmp 0), none, []⟩,
 ⟨(some 12), .idxA 1 (.tmp 11) (.val (.int .i64 2)), none, []⟩,
 ⟨(some 13), .ld none (.tmp 12), none, []⟩,
 ⟨(some 14), .conv .i64 (.tmp 13), none, []⟩,
 ⟨(some 6), .mv (.tmp 14), none, []⟩])
 (.seq
 (.seq
 (.reg [
 ⟨(some 15), .mv (.tmp 0), none, []⟩,
 ⟨(some 16), .idxA 1 (.tmp 15) (.val (.int .i64 0)), none, []⟩,
 ⟨(some 17), .ld none (.tmp 16), none, []⟩,
 ⟨(some 18), .bin .quo (.tmp 17) (.val (.int .u8 16)), none, []⟩,
 ⟨(some 19), .bin .rem (.tmp 18) (.val (.int .u8 2)), none, []⟩,
 ⟨(some 20), .bin .eql (.tmp 19) (.val (.int .u8 1)), none, []⟩])
 (.cond (.tmp 20)
 (.seq
 (.seq
 (.reg [
 ⟨(some 21), .mv (.tmp 0), none, []⟩,
 ⟨(some 22), .len (.tmp 21), none, []⟩,
 ⟨(some 23), .bin .lss (.tmp 22) (.val (.int .i64 4)), none, []⟩])
 (.cond (.tmp 23)
 (.seq
 (.reg [
 ⟨(some 24), .bld [(.int .i64 0), (.int .i64 0), (.slice .full 0 [])] [], none, []⟩,
 ⟨none, .st 3 (.tmp 2) (.tmp 24), none, []⟩,
 ⟨(some 3), .mv (.val (.slice .full 0 [])), none, []⟩,
 ⟨(some 4), .mv (.val (.bool false)), none, []⟩])
 .ret)
 .skip))
 (.seq
 (.reg [
 ⟨(some 5), .mv (.val (.int .i64 4)), none, []⟩])
 (.reg [
 ⟨(some 25), .mv (.tmp 6), none, []⟩,
 ⟨(some 26), .bin .mul (.tmp 25) (.val (.int .i64 256)), none, []⟩,
 ⟨(some 27), .mv (.tmp 0), none, []⟩,
 ⟨(some 28), .idxA 1 (.tmp 27) (.val (.int .i64 3)), none, []⟩,
 ⟨(some 29), .ld none (.tmp 28), none, []⟩,
 ⟨(some 30), .conv .i64 (.tmp 29), none, []⟩,
 ⟨(some 31), .bin .add (.tmp 26) (.tmp 30), none, []⟩,
 ⟨(some 6), .mv (.tmp 31), none, []⟩])))
 .skip))
 (.seq
 (.seq
 (.reg [
 ⟨(some 32), .mv (.tmp 0), none, []⟩,
 ⟨(some 33), .len (.tmp 32), none, []⟩,
 ⟨(some 34), .mv (.tmp 5), none, []⟩,
 ⟨(some 35), .mv (.tmp 6), none, []⟩,
 ⟨(some 36), .bin .add (.tmp 34) (.tmp 35), none, []⟩,
 ⟨(some 37), .bin .lss (.tmp 33) (.tmp 36), none, []⟩])
 (.cond (.tmp 37)
 (.seq
 (.reg [
 ⟨(some 38), .bld [(.int .i64 0), (.int .i64 0), (.slice .full 0 [])] [], none, []⟩,
 ⟨none, .st 3 (.tmp 2) (.tmp 38), none, []⟩,
 ⟨(some 3), .mv (.val (.slice .full 0 [])), none, []⟩,
 ⟨(some 4), .mv (.val (.bool false)), none, []⟩])
 .ret)
 .skip))
 (.seq
 (.reg [
 ⟨(some 39), .mv (.tmp 0), none, []⟩,
 ⟨(some 40), .idxA 1 (.tmp 39) (.val (.int .i64 0)), none, []⟩,
 ⟨(some 41), .ld none (.tmp 40), none, []⟩,
 ⟨(some 42), .conv .i64 (.tmp 41), none, []⟩,
 ⟨(some 43), .mv (.tmp 0), none, []⟩,
 ⟨(some 44), .idxA 1 (.tmp 43) (.val (.int .i64 1)), none, []⟩,
 ⟨(some 45), .ld none (.tmp 44), none, []⟩,
 ⟨(some 46), .conv .i64 (.tmp 45), none, []⟩,
 ⟨(some 47), .mv (.tmp 0), none, []⟩,
 ⟨(some 48), .mv (.tmp 5), none, []⟩,
 ⟨(some 49), .mv (.tmp 5), none, []⟩,
 ⟨(some 50), .mv (.tmp 6), none, []⟩,
 ⟨(some 51), .bin .add (.tmp 49) (.tmp 50), none, []⟩,
 ⟨(some 52), .slc 1 (.tmp 47) (some (.tmp 48)) (some (.tmp 51)) none, none, []⟩,
 ⟨(some 53), .bld [(.int .i64 0), (.int .i64 0), (.slice .full 0 [])] [(0, 1, (.tmp 42)), (1, 1, (.tmp 46)), (2, 1, (.tmp 52))], none, []⟩,
 ⟨(some 54), .mv (.tmp 0), none, []⟩,
 ⟨(some 55), .mv (.tmp 5), none, []⟩,
 ⟨(some 56), .mv (.tmp 6), none, []⟩,
 ⟨(some 57), .bin .add (.tmp 55) (.tmp 56), none, []⟩,
 ⟨(some 58), .slc 1 (.tmp 54) (some (.tmp 57)) none none, none, []⟩,
 ⟨none, .st 3 (.tmp 2) (.tmp 53), none, []⟩,
 ⟨(some 3), .mv (.tmp 58), none, []⟩,
 ⟨(some 4), .mv (.val (.bool true)), none, []⟩])
 .ret)))))))
def c_ridgewayref07_Get : AF := ⟨b_ridgewayref07_Get, 59, [.cell 2 (some 3), .tmp 3, .tmp 4]⟩
theorem p_ridgewayref07_Get : prepFunc Try.prog 70 = some c_ridgewayref07_Get ∧ hasBody Try.prog 70 = true := ⟨by kernel_rfl, by kernel_rfl⟩
def b_ridgewayref07_judge__has : AC :=
 (.seq
 (.reg [
 ⟨(some 4), .mv (.val (.bool false)), none, []⟩])
 (.seq
 (.seq
 (.reg [
 ⟨(some 5), .mv (.val (.int .i64 0)), none, []⟩])
 (.block 0
 (.loop
 (.seq
 (.seq
 (.reg [
 ⟨(some 6), .mv (.tmp 5), none, []⟩,
 ⟨(some 7), .mv (.tmp 0), none, []⟩,
 ⟨(some 8), .nilc (.tmp 7), none, []⟩,
 ⟨(some 9), .off 4 (.tmp 8), none, []⟩,
 ⟨(some 10), .ld none (.tmp 9), none, []⟩,
 ⟨(some 11), .len (.tmp 10), none, []⟩,
 ⟨(some 12), .bin .lss (.tmp 6) (.tmp 11), none, []⟩])
 (.cond (.tmp 12)
 .skip
 (.exit 0)))
 (.seq
 (.block 1
 (.seq
 (.reg [
 ⟨(some 15), .mv (.tmp 0), none, []⟩,
 ⟨(some 16), .nilc (.tmp 15), none, []⟩,
 ⟨(some 17), .off 4 (.tmp 16), none, []⟩,
 ⟨(some 18), .ld none (.tmp 17), none, []⟩,
 ⟨(some 19), .mv (.tmp 5), none, []⟩,
 ⟨(some 20), .idxA 1 (.tmp 18) (.tmp 19), none, []⟩,
 ⟨(some 21), .ld none (.tmp 20), none, []⟩,
 ⟨(some 22), .mv (.tmp 1), none, []⟩,
 ⟨(some 23), .bin .eql (.tmp 21) (.tmp 22), none, []⟩])
 (.cond (.tmp 23)
 (.seq
 (.reg [
 ⟨(some 4), .mv (.val (.bool true)), none, []⟩])
 .ret)
 .skip)))
 (.reg [
 ⟨(some 13), .mv (.tmp 5), none, []⟩,
 ⟨(some 14), .bin .add (.tmp 13) (.val (.int .i64 1)), none, []⟩,
 ⟨(some 5), .mv (.tmp 14), none, []⟩]))))))
 (.seq
 (.reg [
 ⟨(some 4), .mv (.val (.bool false)), none, []⟩])
 .ret)))
def c_ridgewayref07_judge__has : AF := ⟨b_ridgewayref07_judge__has, 24, [.tmp 4]⟩
theorem p_ridgewayref07_judge__has : prepFunc Try.prog 71 = some c_ridgewayref07_judge__has ∧ hasBody Try.prog 71 = true := ⟨by kernel_rfl, by kernel_rfl⟩
def b_ridgewayref07_judge__one : AC :=
 (.seq
 (.reg [
 ⟨(some 3), .box 74 3 (.tmp 1), none, []⟩])
 (.seq
 (.reg [
 ⟨(some 8), .off 0 (.tmp 3), none, []⟩,
 ⟨(some 9), .ld none (.tmp 8), none, []⟩,
 ⟨(some 10), .bin .and (.tmp 9) (.val (.int .i64 192)), none, []⟩,
 ⟨(some 4), .mv (.tmp 10), none, []⟩])
 (.seq
 (.reg [
 ⟨(some 11), .off 2 (.tmp 3), none, []⟩,
 ⟨(some 12), .ld none (.tmp 11), none, []⟩,
 ⟨(some 5), .mv (.tmp 12), none, []⟩])
 (.seq
 (.reg [
 ⟨(some 13), .off 1 (.tmp 3), none, []⟩,
 ⟨(some 14), .ld none (.tmp 13), none, []⟩])
 (.block 0
 (.seq
 (.reg [
 ⟨(some 34), .bin .eql (.tmp 14) (.val (.int .i64 1)), none, []⟩,
 ⟨(some 33), .mv (.tmp 34), none, []⟩])
 (.cond (.tmp 33)
 (.seq
 (.reg [
 ⟨(some 35), .mv (.tmp 0), none, []⟩,
 ⟨(some 36), .mv (.tmp 4), none, []⟩,
 ⟨(some 37), .bin .eql (.tmp 36) (.val (.int .i64 64)), none, []⟩,
 ⟨(some 38), .mv (.tmp 37), none, []⟩,
 ⟨(some 39), .mv (.tmp 5), some (38, true), []⟩,
 ⟨(some 40), .len (.tmp 39), some (38, true), []⟩,
 ⟨(some 41), .bin .eql (.tmp 40) (.val (.int .i64 1)), some (38, true), []⟩,
 ⟨(some 42), .pick (.tmp 38) (.tmp 41) (.val (.bool false)), none, []⟩,
 ⟨(some 43), .mv (.tmp 42), none, []⟩,
 ⟨(some 44), .mv (.tmp 5), some (43, true), []⟩,
 ⟨(some 45), .idxA 1 (.tmp 44) (.val (.int .i64 0)), some (43, true), []⟩,
 ⟨(some 46), .ld none (.tmp 45), some (43, true), []⟩,
 ⟨(some 47), .bin .leq (.tmp 46) (.val (.int .u8 2)), some (43, true), []⟩,
 ⟨(some 48), .pick (.tmp 43) (.tmp 47) (.val (.bool false)), none, []⟩,
 ⟨(some 49), .callS 87 [(.tmp 35), (.tmp 48)], none, []⟩])
 (.seq
 (.reg [
 ⟨(some 50), .mv (.tmp 5), none, []⟩,
 ⟨(some 51), .len (.tmp 50), none, []⟩,
 ⟨(some 52), .bin .gtr (.tmp 51) (.val (.int .i64 0)), none, []⟩])
 (.cond (.tmp 52)
 (.reg [
 ⟨(some 53), .mv (.tmp 0), none, []⟩,
 ⟨(some 54), .mv (.tmp 5), none, []⟩,
 ⟨(some 55), .idxA 1 (.tmp 54) (.val (.int .i64 0)), none, []⟩,
 ⟨(some 56), .ld none (.tmp 55), none, []⟩,
 ⟨(some 57), .conv .i64 (.tmp 56), none, []⟩,
 ⟨(some 58), .nilc (.tmp 53), none, []⟩,
 ⟨(some 59), .off 0 (.tmp 58), none, []⟩,
 ⟨(some 60), .off 0 (.tmp 59), none, []⟩,
 ⟨none, .st 1 (.tmp 60) (.tmp 57), none, []⟩])
 .skip)))
 (.seq
 (.reg [
 ⟨(some 62), .bin .eql (.tmp 14) (.val (.int .i64 2)), none, []⟩,
 ⟨(some 61), .mv (.tmp 62), none, []⟩])
 (.cond (.tmp 61)
 (.seq
 (.reg [
 ⟨(some 64), .mv (.tmp 5), none, []⟩,
 ⟨(some 65), .callS 88 [(.tmp 64)], none, []⟩,
 ⟨(some 63), .mv (.tmp 65), none, []⟩,
 ⟨(some 66), .ext (.tmp 63) 0, none, []⟩,
 ⟨(some 67), .ext (.tmp 63) 1, none, []⟩,
 ⟨(some 6), .mv (.tmp 66), none, []⟩,
 ⟨(some 7), .mv (.tmp 67), none, []⟩])
 (.seq
 (.reg [
 ⟨(some 68), .mv (.tmp 0), none, []⟩,
 ⟨(some 69), .mv (.tmp 4), none, []⟩,
 ⟨(some 70), .bin .eql (.tmp 69) (.val (.int .i64 64)), none, []⟩,
 ⟨(some 71), .mv (.tmp 70), none, []⟩,
 ⟨(some 72), .mv (.tmp 7), some (71, true), []⟩,
 ⟨(some 73), .pick (.tmp 71) (.tmp 72) (.val (.bool false)), none, []⟩,
 ⟨(some 74), .callS 87 [(.tmp 68), (.tmp 73)], none, []⟩])
 (.reg [
 ⟨(some 75), .mv (.tmp 0), none, []⟩,
 ⟨(some 76), .mv (.tmp 6), none, []⟩,
 ⟨(some 77), .nilc (.tmp 75), none, []⟩,
 ⟨(some 78), .off 0 (.tmp 77), none, []⟩,
 ⟨(some 79), .off 1 (.tmp 78), none, []⟩,
 ⟨none, .st 1 (.tmp 79) (.tmp 76), none, []⟩])))
 (.seq
 (.reg [
 ⟨(some 81), .bin .eql (.tmp 14) (.val (.int .i64 3)), none, []⟩,
 ⟨(some 80), .mv (.tmp 81), none, []⟩])
 (.cond (.tmp 80)
 (.seq
 (.reg [
 ⟨(some 82), .mv (.tmp 0), none, []⟩,
 ⟨(some 83), .mv (.tmp 4), none, []⟩,
 ⟨(some 84), .bin .eql (.tmp 83) (.val (.int .i64 64)), none, []⟩,
 ⟨(some 85), .mv (.tmp 84), none, []⟩,
 ⟨(some 86), .mv (.tmp 5), some (85, true), []⟩,
 ⟨(some 87), .callS 89 [(.tmp 86)], some (85, true), []⟩,
 ⟨(some 88), .bin .gtr (.tmp 87) (.val (.int .i64 0)), some (85, true), []⟩,
 ⟨(some 89), .pick (.tmp 85) (.tmp 88) (.val (.bool false)), none, []⟩,
 ⟨(some 90), .callS 87 [(.tmp 82), (.tmp 89)], none, []⟩])
 (.reg [
 ⟨(some 91), .mv (.tmp 0), none, []⟩,
 ⟨(some 92), .mv (.tmp 5), none, []⟩,
 ⟨(some 93), .callS 89 [(.tmp 92)], none, []⟩,
 ⟨(some 94), .nilc (.tmp 91), none, []⟩,
 ⟨(some 95), .off 0 (.tmp 94), none, []⟩,
 ⟨(some 96), .off 2 (.tmp 95), none, []⟩,
 ⟨none, .st 1 (.tmp 96) (.tmp 93), none, []⟩]))
 (.seq
 (.reg [
 ⟨(some 98), .bin .eql (.tmp 14) (.val (.int .i64 4)), none, []⟩,
 ⟨(some 97), .mv (.tmp 98), none, []⟩])
 (.cond (.tmp 97)
 (.reg [
 ⟨(some 99), .mv (.tmp 0), none, []⟩,
 ⟨(some 100), .mv (.tmp 4), none, []⟩,
 ⟨(some 101), .bin .eql (.tmp 100) (.val (.int .i64 128)), none, []⟩,
 ⟨(some 102), .mv (.tmp 101), none, []⟩,
 ⟨(some 103), .mv (.tmp 5), some (102, true), []⟩,
 ⟨(some 104), .len (.tmp 103), some (102, true), []⟩,
 ⟨(some 105), .bin .eql (.tmp 104) (.val (.int .i64 4)), some (102, true), []⟩,
 ⟨(some 106), .pick (.tmp 102) (.tmp 105) (.val (.bool false)), none, []⟩,
 ⟨(some 107), .callS 87 [(.tmp 99), (.tmp 106)], none, []⟩])
 (.seq
 (.reg [
 ⟨(some 109), .bin .eql (.tmp 14) (.val (.int .i64 35)), none, []⟩,
 ⟨(some 108), .mv (.tmp 109), none, []⟩])
 (.cond (.tmp 108)
 (.seq
 (.reg [
 ⟨(some 110), .mv (.tmp 0), none, []⟩,
 ⟨(some 111), .mv (.tmp 4), none, []⟩,
 ⟨(some 112), .bin .eql (.tmp 111) (.val (.int .i64 192)), none, []⟩,
 ⟨(some 113), .mv (.tmp 112), none, []⟩,
 ⟨(some 114), .mv (.tmp 5), some (113, true), []⟩,
 ⟨(some 115), .callS 89 [(.tmp 114)], some (113, true), []⟩,
 ⟨(some 116), .bin .gtr (.tmp 115) (.val (.int .i64 0)), some (113, true), []⟩,
 ⟨(some 117), .pick (.tmp 113) (.tmp 116) (.val (.bool false)), none, []⟩,
 ⟨(some 118), .callS 87 [(.tmp 110), (.tmp 117)], none, []⟩])
 (.reg [
 ⟨(some 119), .mv (.tmp 0), none, []⟩,
 ⟨(some 120), .mv (.tmp 5), none, []⟩,
 ⟨(some 121), .callS 89 [(.tmp 120)], none, []⟩,
 ⟨(some 122), .nilc (.tmp 119), none, []⟩,
 ⟨(some 123), .off 0 (.tmp 122), none, []⟩,
 ⟨(some 124), .off 3 (.tmp 123), none, []⟩,
 ⟨none, .st 1 (.tmp 124) (.tmp 121), none, []⟩]))
 (.seq
 (.seq
 (.reg [
 ⟨(some 126), .bin .eql (.tmp 14) (.val (.int .i64 5)), none, []⟩,
 ⟨(some 125), .mv (.tmp 126), none, []⟩])
 (.cond (.tmp 125)
 .skip
 (.seq
 (.reg [
 ⟨(some 127), .bin .eql (.tmp 14) (.val (.int .i64 6)), none, []⟩,
 ⟨(some 125), .mv (.tmp 127), none, []⟩])
 (.cond (.tmp 125)
 .skip
 (.reg [
 ⟨(some 128), .bin .eql (.tmp 14) (.val (.int .i64 7)), none, []⟩,
 ⟨(some 125), .mv (.tmp 128), none, []⟩])))))
 (.cond (.tmp 125)
 .skip
 (.seq
 (.reg [
 ⟨(some 15), .off 0 (.tmp 3), none, []⟩,
 ⟨(some 16), .ld none (.tmp 15), none, []⟩,
 ⟨(some 17), .bin .and (.tmp 16) (.val (.int .i64 128)), none, []⟩,
 ⟨(some 18), .bin .eql (.tmp 17) (.val (.int .i64 0)), none, []⟩,
 ⟨(some 19), .mv (.tmp 18), none, []⟩,
 ⟨(some 20), .mv (.tmp 0), some (19, true), []⟩,
 ⟨(some 21), .nilc (.tmp 20), some (19, true), []⟩,
 ⟨(some 22), .off 6 (.tmp 21), some (19, true), []⟩,
 ⟨(some 23), .off 0 (.tmp 22), some (19, true), []⟩,
 ⟨(some 24), .ld none (.tmp 23), some (19, true), []⟩,
 ⟨(some 25), .bin .eql (.tmp 24) (.val (.int .i64 0)), some (19, true), []⟩,
 ⟨(some 26), .pick (.tmp 19) (.tmp 25) (.val (.bool false)), none, []⟩])
 (.cond (.tmp 26)
 (.reg [
 ⟨(some 27), .mv (.tmp 0), none, []⟩,
 ⟨(some 28), .ld (some 3) (.tmp 3), none, []⟩,
 ⟨(some 29), .callS 49 [(.val (.slice .full 0 [])), (.tmp 28)], none, []⟩,
 ⟨(some 30), .bld [(.int .i64 0), (.int .i64 0), (.slice .full 0 [])] [(0, 1, (.val (.int .i64 3))), (1, 1, (.val (.int .i64 2))), (2, 1, (.tmp 29))], none, []⟩,
 ⟨(some 31), .nilc (.tmp 27), none, []⟩,
 ⟨(some 32), .off 6 (.tmp 31), none, []⟩,
 ⟨none, .st 3 (.tmp 32) (.tmp 30), none, []⟩])
 .skip)))))))))))))))))))
def c_ridgewayref07_judge__one : AF := ⟨b_ridgewayref07_judge__one, 129, []⟩
theorem p_ridgewayref07_judge__one : prepFunc Try.prog 72 = some c_ridgewayref07_judge__one ∧ hasBody Try.prog 72 = true := ⟨by kernel_rfl, by kernel_rfl⟩
def b_ridgewayref02_Sane : AC :=
 (.seq
 (.reg [
 ⟨(some 1), .box 48 2 (.tmp 0), none, []⟩,
 ⟨(some 2), .mv (.val (.bool false)), none, []⟩])
 (.seq
 (.reg [
 ⟨(some 3), .off 1 (.tmp 1), none, []⟩,
 ⟨(some 4), .ld none (.tmp 3), none, []⟩,
 ⟨(some 5), .bin .geq (.tmp 4) (.val (.int .i64 0)), none, []⟩,
 ⟨(some 6), .mv (.tmp 5), none, []⟩,
 ⟨(some 7), .off 1 (.tmp 1), some (6, true), []⟩,
 ⟨(some 8), .ld none (.tmp 7), some (6, true), []⟩,
 ⟨(some 9), .bin .leq (.tmp 8) (.val (.int .i64 32)), some (6, true), []⟩,
 ⟨(some 10), .pick (.tmp 6) (.tmp 9) (.val (.bool false)), none, []⟩,
 ⟨(some 11), .mv (.tmp 10), none, []⟩,
 ⟨(some 12), .off 0 (.tmp 1), some (11, true), []⟩,
 ⟨(some 13), .ld none (.tmp 12), some (11, true), []⟩,
 ⟨(some 14), .bin .geq (.tmp 13) (.val (.int .i64 0)), some (11, true), []⟩,
 ⟨(some 15), .pick (.tmp 11) (.tmp 14) (.val (.bool false)), none, []⟩,
 ⟨(some 16), .mv (.tmp 15), none, []⟩,
 ⟨(some 17), .off 0 (.tmp 1), some (16, true), []⟩,
 ⟨(some 18), .ld none (.tmp 17), some (16, true), []⟩,
 ⟨(some 19), .bin .leq (.tmp 18) (.val (.int .i64 4294967295)), some (16, true), []⟩,
 ⟨(some 20), .pick (.tmp 16) (.tmp 19) (.val (.bool false)), none, []⟩,
 ⟨(some 21), .mv (.tmp 20), none, []⟩,
 ⟨(some 22), .off 0 (.tmp 1), some (21, true), []⟩,
 ⟨(some 23), .ld none (.tmp 22), some (21, true), []⟩,
 ⟨(some 24), .off 1 (.tmp 1), some (21, true), []⟩,
 ⟨(some 25), .ld none (.tmp 24), some (21, true), []⟩,
 ⟨(some 26), .call 86 [(.tmp 23), (.tmp 25)], some (21, true), []⟩,
 ⟨(some 27), .off 0 (.tmp 1), some (21, true), []⟩,
 ⟨(some 28), .ld none (.tmp 27), some (21, true), []⟩,
 ⟨(some 29), .bin .eql (.tmp 26) (.tmp 28), some (21, true), []⟩,
 ⟨(some 30), .pick (.tmp 21) (.tmp 29) (.val (.bool false)), none, []⟩,
 ⟨(some 2), .mv (.tmp 30), none, []⟩])
 .ret))
def c_ridgewayref02_Sane : AF := ⟨b_ridgewayref02_Sane, 31, [.tmp 2]⟩
theorem p_ridgewayref02_Sane : prepFunc Try.prog 73 = some c_ridgewayref02_Sane ∧ hasBody Try.prog 73 = true := ⟨by kernel_rfl, by kernel_rfl⟩
def b_attr_Of : AC :=
 (.seq
 (.reg [
 ⟨(some 1), .box 25 4 (.tmp 0), none, []⟩,
 ⟨(some 2), .mv (.val (.slice .full 0 [])), none, []⟩])
 (.seq
 (.seq
 (.reg [
 ⟨(some 4), .ld (some 4) (.tmp 1), none, []⟩,
 ⟨(some 5), .callS 28 [(.tmp 4)], none, []⟩,
 ⟨(some 6), .un .not (.tmp 5), none, []⟩])
 (.cond (.tmp 6)
 (.seq
 (.reg [
 ⟨(some 2), .mv (.val (.slice .full 0 [])), none, []⟩])
 .ret)
 .skip))
 (.seq
 (.reg [
 ⟨(some 7), .off 0 (.tmp 1), none, []⟩,
 ⟨(some 8), .ld none (.tmp 7), none, []⟩,
 ⟨(some 9), .call 30 [(.val (.slice .full 0 [])), (.tmp 8), (.val (.int .i64 1))], none, []⟩,
 ⟨(some 10), .bld [(.int .i64 0), (.int .i64 0), (.slice .full 0 [])] [(0, 1, (.val (.int .i64 64))), (1, 1, (.val (.int .i64 1))), (2, 1, (.tmp 9))], none, []⟩,
 ⟨(some 11), .off 1 (.tmp 1), none, []⟩,
 ⟨(some 12), .ld none (.tmp 11), none, []⟩,
 ⟨(some 13), .call 90 [(.tmp 12)], none, []⟩,
 ⟨(some 14), .bld [(.int .i64 0), (.int .i64 0), (.slice .full 0 [])] [(0, 1, (.val (.int .i64 64))), (1, 1, (.val (.int .i64 2))), (2, 1, (.tmp 13))], none, []⟩,
 ⟨(some 15), .off 2 (.tmp 1), none, []⟩,
 ⟨(some 16), .ld none (.tmp 15), none, []⟩,
 ⟨(some 17), .call 30 [(.val (.slice .full 0 [])), (.tmp 16), (.val (.int .i64 4))], none, []⟩,
 ⟨(some 18), .bld [(.int .i64 0), (.int .i64 0), (.slice .full 0 [])] [(0, 1, (.val (.int .i64 64))), (1, 1, (.val (.int .i64 3))), (2, 1, (.tmp 17))], none, []⟩,
 ⟨(some 19), .lit 74 3 [0, 0, 1] [(.tmp 10), (.tmp 14), (.tmp 18)], none, []⟩,
 ⟨(some 3), .mv (.tmp 19), none, []⟩])
 (.seq
 (.seq
 (.reg [
 ⟨(some 20), .off 3 (.tmp 1), none, []⟩,
 ⟨(some 21), .ld none (.tmp 20), none, []⟩,
 ⟨(some 22), .bin .neq (.tmp 21) (.val (.int .i64 0)), none, []⟩])
 (.cond (.tmp 22)
 (.reg [
 ⟨(some 23), .mv (.tmp 3), none, []⟩,
 ⟨(some 24), .off 3 (.tmp 1), none, []⟩,
 ⟨(some 25), .ld none (.tmp 24), none, []⟩,
 ⟨(some 26), .callS 30 [(.val (.slice .full 0 [])), (.tmp 25), (.val (.int .i64 4))], none, []⟩,
 ⟨(some 27), .bld [(.int .i64 0), (.int .i64 0), (.slice .full 0 [])] [(0, 1, (.val (.int .i64 192))), (1, 1, (.val (.int .i64 35))), (2, 1, (.tmp 26))], none, []⟩,
 ⟨(some 28), .lit 74 3 [0, 0, 1] [(.tmp 27)], none, []⟩,
 ⟨(some 29), .app 74 3 40 (.tmp 23) (.tmp 28), none, []⟩,
 ⟨(some 3), .mv (.tmp 29), none, []⟩])
 .skip))
 (.seq
 (.reg [
 ⟨(some 30), .mv (.tmp 3), none, []⟩,
 ⟨(some 2), .mv (.tmp 30), none, []⟩])
 .ret)))))
def c_attr_Of : AF := ⟨b_attr_Of, 31, [.tmp 2]⟩
theorem p_attr_Of : prepFunc Try.prog 74 = some c_attr_Of ∧ hasBody Try.prog 74 = true := ⟨by kernel_rfl, by kernel_rfl⟩
def b_ridgewayref02_Put : AC :=
 (.seq
 (.reg [
 ⟨(some 3), .box 48 2 (.tmp 1), none, []⟩,
 ⟨(some 4), .mv (.val (.slice .full 0 [])), none, []⟩])
 (.seq
 (.reg [
 ⟨(some 7), .lit 5 1 [0] [], none, []⟩,
 ⟨(some 8), .mv (.tmp 0), none, []⟩,
 ⟨(some 9), .app 5 1 1 (.tmp 7) (.tmp 8), none, []⟩,
 ⟨(some 5), .mv (.tmp 9), none, []⟩])
 (.seq
 (.seq
 (.reg [
 ⟨(some 10), .ld (some 2) (.tmp 3), none, []⟩,
 ⟨(some 11), .callS 73 [(.tmp 10)], none, []⟩,
 ⟨(some 12), .un .not (.tmp 11), none, []⟩])
 (.cond (.tmp 12)
 (.seq
 (.reg [
 ⟨(some 13), .mv (.tmp 5), none, []⟩,
 ⟨(some 4), .mv (.tmp 13), none, []⟩])
 .ret)
 .skip))
 (.seq
 (.reg [
 ⟨(some 14), .mv (.tmp 5), none, []⟩,
 ⟨(some 15), .off 1 (.tmp 3), none, []⟩,
 ⟨(some 16), .ld none (.tmp 15), none, []⟩,
 ⟨(some 17), .conv .u8 (.tmp 16), none, []⟩,
 ⟨(some 18), .lit 5 1 [0] [(.tmp 17)], none, []⟩,
 ⟨(some 19), .app 5 1 1 (.tmp 14) (.tmp 18), none, []⟩,
 ⟨(some 5), .mv (.tmp 19), none, []⟩])
 (.seq
 (.seq
 (.reg [
 ⟨(some 6), .mv (.val (.int .i64 0)), none, []⟩])
 (.block 0
 (.loop
 (.seq
 (.seq
 (.reg [
 ⟨(some 20), .mv (.tmp 6), none, []⟩,
 ⟨(some 21), .off 1 (.tmp 3), none, []⟩,
 ⟨(some 22), .ld none (.tmp 21), none, []⟩,
 ⟨(some 23), .bin .add (.tmp 22) (.val (.int .i64 7)), none, []⟩,
 ⟨(some 24), .bin .quo (.tmp 23) (.val (.int .i64 8)), none, []⟩,
 ⟨(some 25), .bin .lss (.tmp 20) (.tmp 24), none, []⟩])
 (.cond (.tmp 25)
 .skip
 (.exit 0)))
 (.seq
 (.block 1
 (.reg [
 ⟨(some 28), .mv (.tmp 5), none, []⟩,
 ⟨(some 29), .off 0 (.tmp 3), none, []⟩,
 ⟨(some 30), .ld none (.tmp 29), none, []⟩,
 ⟨(some 31), .mv (.tmp 6), none, []⟩,
 ⟨(some 32), .bin .mul (.val (.int .i64 8)) (.tmp 31), none, []⟩,
 ⟨(some 33), .bin .sub (.val (.int .i64 24)) (.tmp 32), none, []⟩,
 ⟨(some 34), .conv .u64 (.tmp 33), none, []⟩,
 ⟨(some 35), .bin .shr (.tmp 30) (.tmp 34), none, []⟩,
 ⟨(some 36), .conv .u8 (.tmp 35), none, []⟩,
 ⟨(some 37), .lit 5 1 [0] [(.tmp 36)], none, []⟩,
 ⟨(some 38), .app 5 1 1 (.tmp 28) (.tmp 37), none, []⟩,
 ⟨(some 5), .mv (.tmp 38), none, []⟩]))
 (.reg [
 ⟨(some 26), .mv (.tmp 6), none, []⟩,
 ⟨(some 27), .bin .add (.tmp 26) (.val (.int .i64 1)), none, []⟩,
 ⟨(some 6), .mv (.tmp 27), none, []⟩]))))))
 (.seq
 (.reg [
 ⟨(some 39), .mv (.tmp 5), none, []⟩,
 ⟨(some 4), .mv (.tmp 39), none, []⟩])
 .ret))))))
def c_ridgewayref02_Put : AF := ⟨b_ridgewayref02_Put, 40, [.tmp 4]⟩
theorem p_ridgewayref02_Put : prepFunc Try.prog 75 = some c_ridgewayref02_Put ∧ hasBody Try.prog 75 = true := ⟨by kernel_rfl, by kernel_rfl⟩
def b_ridgewayref07_right : AC :=
 (.seq
 (.reg [
 ⟨(some 1), .box 74 3 (.tmp 0), none, []⟩,
 ⟨(some 2), .mv (.val (.bool false)), none, []⟩])
 (.seq
 (.reg [
 ⟨(some 3), .off 0 (.tmp 1), none, []⟩,
 ⟨(some 4), .ld none (.tmp 3), none, []⟩,
 ⟨(some 5), .bin .geq (.tmp 4) (.val (.int .i64 0)), none, []⟩,
 ⟨(some 6), .mv (.tmp 5), none, []⟩,
 ⟨(some 7), .off 0 (.tmp 1), some (6, true), []⟩,
 ⟨(some 8), .ld none (.tmp 7), some (6, true), []⟩,
 ⟨(some 9), .bin .leq (.tmp 8) (.val (.int .i64 255)), some (6, true), []⟩,
 ⟨(some 10), .pick (.tmp 6) (.tmp 9) (.val (.bool false)), none, []⟩,
 ⟨(some 11), .mv (.tmp 10), none, []⟩,
 ⟨(some 12), .off 1 (.tmp 1), some (11, true), []⟩,
 ⟨(some 13), .ld none (.tmp 12), some (11, true), []⟩,
 ⟨(some 14), .bin .geq (.tmp 13) (.val (.int .i64 0)), some (11, true), []⟩,
 ⟨(some 15), .pick (.tmp 11) (.tmp 14) (.val (.bool false)), none, []⟩,
 ⟨(some 16), .mv (.tmp 15), none, []⟩,
 ⟨(some 17), .off 1 (.tmp 1), some (16, true), []⟩,
 ⟨(some 18), .ld none (.tmp 17), some (16, true), []⟩,
 ⟨(some 19), .bin .leq (.tmp 18) (.val (.int .i64 255)), some (16, true), []⟩,
 ⟨(some 20), .pick (.tmp 16) (.tmp 19) (.val (.bool false)), none, []⟩,
 ⟨(some 21), .mv (.tmp 20), none, []⟩,
 ⟨(some 22), .off 2 (.tmp 1), some (21, true), []⟩,
 ⟨(some 23), .ld none (.tmp 22), some (21, true), []⟩,
 ⟨(some 24), .len (.tmp 23), some (21, true), []⟩,
 ⟨(some 25), .bin .leq (.tmp 24) (.val (.int .i64 65535)), some (21, true), []⟩,
 ⟨(some 26), .pick (.tmp 21) (.tmp 25) (.val (.bool false)), none, []⟩,
 ⟨(some 2), .mv (.tmp 26), none, []⟩])
 .ret))
def c_ridgewayref07_right : AF := ⟨b_ridgewayref07_right, 27, [.tmp 2]⟩
theorem p_ridgewayref07_right : prepFunc Try.prog 76 = some c_ridgewayref07_right ∧ hasBody Try.prog 76 = true := ⟨by kernel_rfl, by kernel_rfl⟩
def b_update_pack_1 : AC :=
 (.seq
 (.reg [
 ⟨(some 2), .box 48 2 (.tmp 0), none, []⟩,
 ⟨(some 3), .mv (.val (.bool false)), none, []⟩])
 (.seq
 (.reg [
 ⟨(some 4), .ld none (.tmp 1), none, []⟩,
 ⟨(some 5), .ld (some 2) (.tmp 2), none, []⟩,
 ⟨(some 6), .call 29 [(.val (.slice .full 0 [])), (.tmp 5)], none, []⟩,
 ⟨(some 7), .len (.tmp 6), none, []⟩,
 ⟨(some 8), .bin .add (.tmp 4) (.tmp 7), none, []⟩,
 ⟨none, .st 1 (.tmp 1) (.tmp 8), none, []⟩])
 (.seq
 (.reg [
 ⟨(some 9), .ld none (.tmp 1), none, []⟩,
 ⟨(some 10), .bin .leq (.tmp 9) (.val (.int .i64 4096)), none, []⟩,
 ⟨(some 3), .mv (.tmp 10), none, []⟩])
 .ret)))
def c_update_pack_1 : AF := ⟨b_update_pack_1, 11, [.tmp 3]⟩
theorem p_update_pack_1 : prepFunc Try.prog 77 = some c_update_pack_1 ∧ hasBody Try.prog 77 = true := ⟨by kernel_rfl, by kernel_rfl⟩
def b_attr_octetSized : AC :=
 (.seq
 (.reg [
 ⟨(some 2), .mv (.val (.bool false)), none, []⟩])
 (.seq
 (.reg [
 ⟨(some 3), .mv (.tmp 0), none, []⟩,
 ⟨(some 4), .bin .geq (.tmp 3) (.val (.int .i64 0)), none, []⟩,
 ⟨(some 5), .mv (.tmp 4), none, []⟩,
 ⟨(some 6), .mv (.tmp 0), some (5, true), []⟩,
 ⟨(some 7), .bin .leq (.tmp 6) (.val (.int .i64 255)), some (5, true), []⟩,
 ⟨(some 8), .pick (.tmp 5) (.tmp 7) (.val (.bool false)), none, []⟩,
 ⟨(some 2), .mv (.tmp 8), none, []⟩])
 .ret))
def c_attr_octetSized : AF := ⟨b_attr_octetSized, 9, [.tmp 2]⟩
theorem p_attr_octetSized : prepFunc Try.prog 79 = some c_attr_octetSized ∧ hasBody Try.prog 79 = true := ⟨by kernel_rfl, by kernel_rfl⟩
def b_attr_readOrigin : AC :=
 (.seq
 (.reg [
 ⟨(some 4), .mv (.val (.bool false)), none, []⟩])
 (.seq
 (.seq
 (.reg [
 ⟨(some 5), .mv (.tmp 1), none, []⟩,
 ⟨(some 6), .len (.tmp 5), none, []⟩,
 ⟨(some 7), .bin .neq (.tmp 6) (.val (.int .i64 1)), none, []⟩,
 ⟨(some 8), .mv (.tmp 7), none, []⟩,
 ⟨(some 9), .mv (.tmp 1), some (8, false), []⟩,
 ⟨(some 10), .idxA 1 (.tmp 9) (.val (.int .i64 0)), some (8, false), []⟩,
 ⟨(some 11), .ld none (.tmp 10), some (8, false), []⟩,
 ⟨(some 12), .bin .gtr (.tmp 11) (.val (.int .u8 2)), some (8, false), []⟩,
 ⟨(some 13), .pick (.tmp 8) (.val (.bool true)) (.tmp 12), none, []⟩])
 (.cond (.tmp 13)
 (.seq
 (.reg [
 ⟨(some 4), .mv (.val (.bool false)), none, []⟩])
 .ret)
 .skip))
 (.seq
 (.reg [
 ⟨(some 14), .mv (.tmp 0), none, []⟩,
 ⟨(some 15), .mv (.tmp 1), none, []⟩,
 ⟨(some 16), .idxA 1 (.tmp 15) (.val (.int .i64 0)), none, []⟩,
 ⟨(some 17), .ld none (.tmp 16), none, []⟩,
 ⟨(some 18), .conv .i64 (.tmp 17), none, []⟩,
 ⟨(some 19), .nilc (.tmp 14), none, []⟩,
 ⟨(some 20), .off 0 (.tmp 19), none, []⟩,
 ⟨none, .st 1 (.tmp 20) (.tmp 18), none, []⟩])
 (.seq
 (.reg [
 ⟨(some 4), .mv (.val (.bool true)), none, []⟩])
 .ret))))
def c_attr_readOrigin : AF := ⟨b_attr_readOrigin, 21, [.tmp 4]⟩
theorem p_attr_readOrigin : prepFunc Try.prog 80 = some c_attr_readOrigin ∧ hasBody Try.prog 80 = true := ⟨by kernel_rfl, by kernel_rfl⟩
def b_attr_readAs : AC :=
 (.seq
 (.reg [
 ⟨(some 4), .mv (.val (.bool false)), none, []⟩])
 (.seq
 (.block 0
 (.loop
 (.seq
 (.seq
 (.reg [
 ⟨(some 13), .mv (.tmp 1), none, []⟩,
 ⟨(some 14), .len (.tmp 13), none, []⟩,
 ⟨(some 15), .bin .gtr (.tmp 14) (.val (.int .i64 0)), none, []⟩])
 (.cond (.tmp 15)
 .skip
 (.exit 0)))
 (.block 1
 (.seq
 (.reg [
 ⟨(some 17), .mv (.tmp 1), none, []⟩,
 ⟨(some 18), .callS 63 [(.tmp 17), (.val (.int .i64 1))], none, []⟩,
 ⟨(some 16), .mv (.tmp 18), none, []⟩,
 ⟨(some 19), .ext (.tmp 16) 0, none, []⟩,
 ⟨(some 20), .ext (.tmp 16) 1, none, []⟩,
 ⟨(some 21), .ext (.tmp 16) 2, none, []⟩,
 ⟨(some 5), .mv (.tmp 19), none, []⟩,
 ⟨(some 6), .mv (.tmp 20), none, []⟩,
 ⟨(some 7), .mv (.tmp 21), none, []⟩])
 (.seq
 (.reg [
 ⟨(some 23), .mv (.tmp 6), none, []⟩,
 ⟨(some 24), .callS 63 [(.tmp 23), (.val (.int .i64 1))], none, []⟩,
 ⟨(some 22), .mv (.tmp 24), none, []⟩,
 ⟨(some 25), .ext (.tmp 22) 0, none, []⟩,
 ⟨(some 26), .ext (.tmp 22) 1, none, []⟩,
 ⟨(some 27), .ext (.tmp 22) 2, none, []⟩,
 ⟨(some 8), .mv (.tmp 25), none, []⟩,
 ⟨(some 6), .mv (.tmp 26), none, []⟩,
 ⟨(some 9), .mv (.tmp 27), none, []⟩])
 (.seq
 (.seq
 (.reg [
 ⟨(some 28), .mv (.tmp 5), none, []⟩,
 ⟨(some 29), .bin .neq (.tmp 28) (.val (.int .i64 2)), none, []⟩,
 ⟨(some 30), .mv (.tmp 29), none, []⟩,
 ⟨(some 31), .mv (.tmp 8), some (30, false), []⟩,
 ⟨(some 32), .bin .eql (.tmp 31) (.val (.int .i64 0)), some (30, false), []⟩,
 ⟨(some 33), .pick (.tmp 30) (.val (.bool true)) (.tmp 32), none, []⟩])
 (.cond (.tmp 33)
 (.seq
 (.reg [
 ⟨(some 4), .mv (.val (.bool false)), none, []⟩])
 .ret)
 .skip))
 (.seq
 (.seq
 (.reg [
 ⟨(some 34), .mv (.tmp 8), none, []⟩,
 ⟨(some 35), .mv (.val (.int .i64 0)), none, []⟩])
 (.block 2
 (.loop
 (.seq
 (.reg [
 ⟨(some 36), .bin .lss (.tmp 35) (.tmp 34), none, []⟩])
 (.seq
 (.cond (.tmp 36)
 .skip
 (.exit 2))
 (.seq
 (.block 3
 (.seq
 (.reg [
 ⟨(some 38), .mv (.tmp 6), none, []⟩,
 ⟨(some 39), .callS 63 [(.tmp 38), (.val (.int .i64 4))], none, []⟩,
 ⟨(some 37), .mv (.tmp 39), none, []⟩,
 ⟨(some 40), .ext (.tmp 37) 0, none, []⟩,
 ⟨(some 41), .ext (.tmp 37) 1, none, []⟩,
 ⟨(some 42), .ext (.tmp 37) 2, none, []⟩,
 ⟨(some 10), .mv (.tmp 40), none, []⟩,
 ⟨(some 11), .mv (.tmp 41), none, []⟩,
 ⟨(some 12), .mv (.tmp 42), none, []⟩])
 (.seq
 (.seq
 (.reg [
 ⟨(some 43), .mv (.tmp 10), none, []⟩,
 ⟨(some 44), .bin .eql (.tmp 43) (.val (.int .i64 0)), none, []⟩])
 (.cond (.tmp 44)
 (.seq
 (.reg [
 ⟨(some 4), .mv (.val (.bool false)), none, []⟩])
 .ret)
 .skip))
 (.reg [
 ⟨(some 45), .mv (.tmp 0), none, []⟩,
 ⟨(some 46), .mv (.tmp 0), none, []⟩,
 ⟨(some 47), .nilc (.tmp 46), none, []⟩,
 ⟨(some 48), .off 1 (.tmp 47), none, []⟩,
 ⟨(some 49), .ld none (.tmp 48), none, []⟩,
 ⟨(some 50), .mv (.tmp 10), none, []⟩,
 ⟨(some 51), .lit 3 1 [0] [(.tmp 50)], none, []⟩,
 ⟨(some 52), .app 3 1 8 (.tmp 49) (.tmp 51), none, []⟩,
 ⟨(some 53), .mv (.tmp 11), none, []⟩,
 ⟨(some 54), .nilc (.tmp 45), none, []⟩,
 ⟨(some 55), .off 1 (.tmp 54), none, []⟩,
 ⟨none, .st 1 (.tmp 55) (.tmp 52), none, []⟩,
 ⟨(some 6), .mv (.tmp 53), none, []⟩]))))
 (.reg [
 ⟨(some 56), .bin .add (.tmp 35) (.val (.int .i64 1)), none, []⟩,
 ⟨(some 35), .mv (.tmp 56), none, []⟩])))))))
 (.reg [
 ⟨(some 57), .mv (.tmp 6), none, []⟩,
 ⟨(some 1), .mv (.tmp 57), none, []⟩])))))))))
 (.seq
 (.reg [
 ⟨(some 4), .mv (.val (.bool true)), none, []⟩])
 .ret)))
def c_attr_readAs : AF := ⟨b_attr_readAs, 58, [.tmp 4]⟩
theorem p_attr_readAs : prepFunc Try.prog 81 = some c_attr_readAs ∧ hasBody Try.prog 81 = true := ⟨by kernel_rfl, by kernel_rfl⟩
def b_attr_readHop : AC :=
 (.seq
 (.reg [
 ⟨(some 4), .mv (.val (.bool false)), none, []⟩])
 (.seq
 (.reg [
 ⟨(some 6), .mv (.tmp 0), none, []⟩,
 ⟨(some 7), .mv (.tmp 1), none, []⟩,
 ⟨(some 8), .callS 91 [(.tmp 7)], none, []⟩,
 ⟨(some 5), .mv (.tmp 8), none, []⟩,
 ⟨(some 9), .ext (.tmp 5) 0, none, []⟩,
 ⟨(some 10), .ext (.tmp 5) 1, none, []⟩,
 ⟨(some 11), .nilc (.tmp 6), none, []⟩,
 ⟨(some 12), .off 2 (.tmp 11), none, []⟩,
 ⟨none, .st 1 (.tmp 12) (.tmp 9), none, []⟩,
 ⟨(some 4), .mv (.tmp 10), none, []⟩])
 (.seq
 (.reg [
 ⟨(some 13), .mv (.tmp 4), none, []⟩,
 ⟨(some 4), .mv (.tmp 13), none, []⟩])
 .ret)))
def c_attr_readHop : AF := ⟨b_attr_readHop, 14, [.tmp 4]⟩
theorem p_attr_readHop : prepFunc Try.prog 82 = some c_attr_readHop ∧ hasBody Try.prog 82 = true := ⟨by kernel_rfl, by kernel_rfl⟩
def b_attr_readMed : AC :=
 (.seq
 (.reg [
 ⟨(some 4), .mv (.val (.bool false)), none, []⟩])
 (.seq
 (.reg [
 ⟨(some 5), .mv (.tmp 1), none, []⟩,
 ⟨(some 6), .len (.tmp 5), none, []⟩,
 ⟨(some 7), .bin .eql (.tmp 6) (.val (.int .i64 4)), none, []⟩,
 ⟨(some 4), .mv (.tmp 7), none, []⟩])
 .ret))
def c_attr_readMed : AF := ⟨b_attr_readMed, 8, [.tmp 4]⟩
theorem p_attr_readMed : prepFunc Try.prog 83 = some c_attr_readMed ∧ hasBody Try.prog 83 = true := ⟨by kernel_rfl, by kernel_rfl⟩
def b_attr_readOtc : AC :=
 (.seq
 (.reg [
 ⟨(some 4), .mv (.val (.bool false)), none, []⟩])
 (.seq
 (.reg [
 ⟨(some 6), .mv (.tmp 0), none, []⟩,
 ⟨(some 7), .mv (.tmp 1), none, []⟩,
 ⟨(some 8), .callS 91 [(.tmp 7)], none, []⟩,
 ⟨(some 5), .mv (.tmp 8), none, []⟩,
 ⟨(some 9), .ext (.tmp 5) 0, none, []⟩,
 ⟨(some 10), .ext (.tmp 5) 1, none, []⟩,
 ⟨(some 11), .nilc (.tmp 6), none, []⟩,
 ⟨(some 12), .off 3 (.tmp 11), none, []⟩,
 ⟨none, .st 1 (.tmp 12) (.tmp 9), none, []⟩,
 ⟨(some 4), .mv (.tmp 10), none, []⟩])
 (.seq
 (.reg [
 ⟨(some 13), .mv (.tmp 4), none, []⟩,
 ⟨(some 4), .mv (.tmp 13), none, []⟩])
 .ret)))
def c_attr_readOtc : AF := ⟨b_attr_readOtc, 14, [.tmp 4]⟩
theorem p_attr_readOtc : prepFunc Try.prog 84 = some c_attr_readOtc ∧ hasBody Try.prog 84 = true := ⟨by kernel_rfl, by kernel_rfl⟩
def b_ridgewayref03_Least : AC :=
 (.seq
 (.reg [
 ⟨(some 2), .mv (.val (.int .i64 0)), none, []⟩])
 (.seq
 (.seq
 (.reg [
 ⟨(some 3), .mv (.tmp 0), none, []⟩])
 (.block 0
 (.seq
 (.reg [
 ⟨(some 5), .bin .eql (.tmp 3) (.val (.int .i64 1)), none, []⟩,
 ⟨(some 4), .mv (.tmp 5), none, []⟩])
 (.cond (.tmp 4)
 (.seq
 (.reg [
 ⟨(some 2), .mv (.val (.int .i64 29)), none, []⟩])
 .ret)
 (.seq
 (.reg [
 ⟨(some 7), .bin .eql (.tmp 3) (.val (.int .i64 2)), none, []⟩,
 ⟨(some 6), .mv (.tmp 7), none, []⟩])
 (.cond (.tmp 6)
 (.seq
 (.reg [
 ⟨(some 2), .mv (.val (.int .i64 23)), none, []⟩])
 .ret)
 (.seq
 (.reg [
 ⟨(some 9), .bin .eql (.tmp 3) (.val (.int .i64 3)), none, []⟩,
 ⟨(some 8), .mv (.tmp 9), none, []⟩])
 (.cond (.tmp 8)
 (.seq
 (.reg [
 ⟨(some 2), .mv (.val (.int .i64 21)), none, []⟩])
 .ret)
 (.seq
 (.reg [
 ⟨(some 11), .bin .eql (.tmp 3) (.val (.int .i64 4)), none, []⟩,
 ⟨(some 10), .mv (.tmp 11), none, []⟩])
 (.cond (.tmp 10)
 (.seq
 (.reg [
 ⟨(some 2), .mv (.val (.int .i64 19)), none, []⟩])
 .ret)
 .skip))))))))))
 (.seq
 (.reg [
 ⟨(some 2), .mv (.val (.int .i64 0)), none, []⟩])
 .ret)))
def c_ridgewayref03_Least : AF := ⟨b_ridgewayref03_Least, 12, [.tmp 2]⟩
theorem p_ridgewayref03_Least : prepFunc Try.prog 85 = some c_ridgewayref03_Least ∧ hasBody Try.prog 85 = true := ⟨by kernel_rfl, by kernel_rfl⟩
def b_ridgewayref02_Mask : AC :=
 (.seq
 (.reg [
 ⟨(some 4), .mv (.val (.int .i64 0)), none, []⟩])
 (.seq
 (.reg [
 ⟨(some 6), .mv (.tmp 0), none, []⟩,
 ⟨(some 7), .bin .and (.tmp 6) (.val (.int .i64 4294967295)), none, []⟩,
 ⟨(some 5), .mv (.tmp 7), none, []⟩])
 (.seq
 (.reg [
 ⟨(some 8), .mv (.tmp 5), none, []⟩,
 ⟨(some 9), .mv (.tmp 5), none, []⟩,
 ⟨(some 10), .mv (.tmp 1), none, []⟩,
 ⟨(some 11), .callS 92 [(.tmp 10)], none, []⟩,
 ⟨(some 12), .bin .rem (.tmp 9) (.tmp 11), none, []⟩,
 ⟨(some 13), .bin .sub (.tmp 8) (.tmp 12), none, []⟩,
 ⟨(some 4), .mv (.tmp 13), none, []⟩])
 .ret)))
def c_ridgewayref02_Mask : AF := ⟨b_ridgewayref02_Mask, 14, [.tmp 4]⟩
theorem p_ridgewayref02_Mask : prepFunc Try.prog 86 = some c_ridgewayref02_Mask ∧ hasBody Try.prog 86 = true := ⟨by kernel_rfl, by kernel_rfl⟩
def b_ridgewayref07_judge__need : AC :=
 (.seq
 (.reg [
 ⟨(some 4), .mv (.tmp 1), none, []⟩,
 ⟨(some 5), .un .not (.tmp 4), none, []⟩])
 (.cond (.tmp 5)
 (.reg [
 ⟨(some 6), .mv (.tmp 0), none, []⟩,
 ⟨(some 7), .nilc (.tmp 6), none, []⟩,
 ⟨(some 8), .off 5 (.tmp 7), none, []⟩,
 ⟨none, .st 1 (.tmp 8) (.val (.bool true)), none, []⟩])
 .skip))
def c_ridgewayref07_judge__need : AF := ⟨b_ridgewayref07_judge__need, 9, []⟩
theorem p_ridgewayref07_judge__need : prepFunc Try.prog 87 = some c_ridgewayref07_judge__need ∧ hasBody Try.prog 87 = true := ⟨by kernel_rfl, by kernel_rfl⟩
def b_ridgewayref07_ases : AC :=
 (.seq
 (.reg [
 ⟨(some 2), .mv (.val (.slice .full 0 [])), none, []⟩,
 ⟨(some 3), .mv (.val (.bool false)), none, []⟩])
 (.seq
 (.reg [
 ⟨(some 4), .mv (.val (.slice .full 0 [])), none, []⟩])
 (.seq
 (.block 0
 (.loop
 (.seq
 (.seq
 (.reg [
 ⟨(some 7), .mv (.tmp 0), none, []⟩,
 ⟨(some 8), .len (.tmp 7), none, []⟩,
 ⟨(some 9), .bin .gtr (.tmp 8) (.val (.int .i64 0)), none, []⟩])
 (.cond (.tmp 9)
 .skip
 (.exit 0)))
 (.block 1
 (.seq
 (.seq
 (.reg [
 ⟨(some 10), .mv (.tmp 0), none, []⟩,
 ⟨(some 11), .len (.tmp 10), none, []⟩,
 ⟨(some 12), .bin .lss (.tmp 11) (.val (.int .i64 2)), none, []⟩,
 ⟨(some 13), .mv (.tmp 12), none, []⟩,
 ⟨(some 14), .mv (.tmp 0), some (13, false), []⟩,
 ⟨(some 15), .idxA 1 (.tmp 14) (.val (.int .i64 0)), some (13, false), []⟩,
 ⟨(some 16), .ld none (.tmp 15), some (13, false), []⟩,
 ⟨(some 17), .bin .neq (.tmp 16) (.val (.int .u8 2)), some (13, false), []⟩,
 ⟨(some 18), .pick (.tmp 13) (.val (.bool true)) (.tmp 17), none, []⟩,
 ⟨(some 19), .mv (.tmp 18), none, []⟩,
 ⟨(some 20), .mv (.tmp 0), some (19, false), []⟩,
 ⟨(some 21), .idxA 1 (.tmp 20) (.val (.int .i64 1)), some (19, false), []⟩,
 ⟨(some 22), .ld none (.tmp 21), some (19, false), []⟩,
 ⟨(some 23), .bin .eql (.tmp 22) (.val (.int .u8 0)), some (19, false), []⟩,
 ⟨(some 24), .pick (.tmp 19) (.val (.bool true)) (.tmp 23), none, []⟩,
 ⟨(some 25), .mv (.tmp 24), none, []⟩,
 ⟨(some 26), .mv (.tmp 0), some (25, false), []⟩,
 ⟨(some 27), .len (.tmp 26), some (25, false), []⟩,
 ⟨(some 28), .mv (.tmp 0), some (25, false), []⟩,
 ⟨(some 29), .idxA 1 (.tmp 28) (.val (.int .i64 1)), some (25, false), []⟩,
 ⟨(some 30), .ld none (.tmp 29), some (25, false), []⟩,
 ⟨(some 31), .conv .i64 (.tmp 30), some (25, false), []⟩,
 ⟨(some 32), .bin .mul (.val (.int .i64 4)) (.tmp 31), some (25, false), []⟩,
 ⟨(some 33), .bin .add (.val (.int .i64 2)) (.tmp 32), some (25, false), []⟩,
 ⟨(some 34), .bin .lss (.tmp 27) (.tmp 33), some (25, false), []⟩,
 ⟨(some 35), .pick (.tmp 25) (.val (.bool true)) (.tmp 34), none, []⟩])
 (.cond (.tmp 35)
 (.seq
 (.reg [
 ⟨(some 2), .mv (.val (.slice .full 0 [])), none, []⟩,
 ⟨(some 3), .mv (.val (.bool false)), none, []⟩])
 .ret)
 .skip))
 (.seq
 (.seq
 (.reg [
 ⟨(some 5), .mv (.val (.int .i64 0)), none, []⟩])
 (.block 2
 (.loop
 (.seq
 (.seq
 (.reg [
 ⟨(some 36), .mv (.tmp 5), none, []⟩,
 ⟨(some 37), .mv (.tmp 0), none, []⟩,
 ⟨(some 38), .idxA 1 (.tmp 37) (.val (.int .i64 1)), none, []⟩,
 ⟨(some 39), .ld none (.tmp 38), none, []⟩,
 ⟨(some 40), .conv .i64 (.tmp 39), none, []⟩,
 ⟨(some 41), .bin .lss (.tmp 36) (.tmp 40), none, []⟩])
 (.cond (.tmp 41)
 .skip
 (.exit 2)))
 (.seq
 (.block 3
 (.seq
 (.reg [
 ⟨(some 44), .mv (.tmp 0), none, []⟩,
 ⟨(some 45), .mv (.tmp 5), none, []⟩,
 ⟨(some 46), .bin .mul (.val (.int .i64 4)) (.tmp 45), none, []⟩,
 ⟨(some 47), .bin .add (.val (.int .i64 2)) (.tmp 46), none, []⟩,
 ⟨(some 48), .mv (.tmp 5), none, []⟩,
 ⟨(some 49), .bin .mul (.val (.int .i64 4)) (.tmp 48), none, []⟩,
 ⟨(some 50), .bin .add (.val (.int .i64 6)) (.tmp 49), none, []⟩,
 ⟨(some 51), .slc 1 (.tmp 44) (some (.tmp 47)) (some (.tmp 50)) none, none, []⟩,
 ⟨(some 52), .callS 89 [(.tmp 51)], none, []⟩,
 ⟨(some 6), .mv (.tmp 52), none, []⟩])
 (.seq
 (.seq
 (.reg [
 ⟨(some 53), .mv (.tmp 6), none, []⟩,
 ⟨(some 54), .bin .eql (.tmp 53) (.val (.int .i64 0)), none, []⟩])
 (.cond (.tmp 54)
 (.seq
 (.reg [
 ⟨(some 2), .mv (.val (.slice .full 0 [])), none, []⟩,
 ⟨(some 3), .mv (.val (.bool false)), none, []⟩])
 .ret)
 .skip))
 (.reg [
 ⟨(some 55), .mv (.tmp 4), none, []⟩,
 ⟨(some 56), .mv (.tmp 6), none, []⟩,
 ⟨(some 57), .lit 3 1 [0] [(.tmp 56)], none, []⟩,
 ⟨(some 58), .app 3 1 8 (.tmp 55) (.tmp 57), none, []⟩,
 ⟨(some 4), .mv (.tmp 58), none, []⟩]))))
 (.reg [
 ⟨(some 42), .mv (.tmp 5), none, []⟩,
 ⟨(some 43), .bin .add (.tmp 42) (.val (.int .i64 1)), none, []⟩,
 ⟨(some 5), .mv (.tmp 43), none, []⟩]))))))
 (.reg [
 ⟨(some 59), .mv (.tmp 0), none, []⟩,
 ⟨(some 60), .mv (.tmp 0), none, []⟩,
 ⟨(some 61), .idxA 1 (.tmp 60) (.val (.int .i64 1)), none, []⟩,
 ⟨(some 62), .ld none (.tmp 61), none, []⟩,
 ⟨(some 63), .conv .i64 (.tmp 62), none, []⟩,
 ⟨(some 64), .bin .mul (.val (.int .i64 4)) (.tmp 63), none, []⟩,
 ⟨(some 65), .bin .add (.val (.int .i64 2)) (.tmp 64), none, []⟩,
 ⟨(some 66), .slc 1 (.tmp 59) (some (.tmp 65)) none none, none, []⟩,
 ⟨(some 0), .mv (.tmp 66), none, []⟩])))))))
 (.seq
 (.reg [
 ⟨(some 67), .mv (.tmp 4), none, []⟩,
 ⟨(some 2), .mv (.tmp 67), none, []⟩,
 ⟨(some 3), .mv (.val (.bool true)), none, []⟩])
 .ret))))
def c_ridgewayref07_ases : AF := ⟨b_ridgewayref07_ases, 68, [.tmp 2, .tmp 3]⟩
theorem p_ridgewayref07_ases : prepFunc Try.prog 88 = some c_ridgewayref07_ases ∧ hasBody Try.prog 88 = true := ⟨by kernel_rfl, by kernel_rfl⟩
def b_ridgewayref07_four : AC :=
 (.seq
 (.reg [
 ⟨(some 2), .mv (.val (.int .i64 0)), none, []⟩])
 (.seq
 (.seq
 (.reg [
 ⟨(some 6), .mv (.tmp 0), none, []⟩,
 ⟨(some 7), .len (.tmp 6), none, []⟩,
 ⟨(some 8), .bin .neq (.tmp 7) (.val (.int .i64 4)), none, []⟩])
 (.cond (.tmp 8)
 (.seq
 (.reg [
 ⟨(some 2), .mv (.val (.int .i64 0)), none, []⟩])
 .ret)
 .skip))
 (.seq
 (.reg [
 ⟨(some 10), .mv (.tmp 0), none, []⟩,
 ⟨(some 11), .callS 67 [(.tmp 10), (.val (.int .i64 4))], none, []⟩,
 ⟨(some 9), .mv (.tmp 11), none, []⟩,
 ⟨(some 12), .ext (.tmp 9) 0, none, []⟩,
 ⟨(some 13), .ext (.tmp 9) 1, none, []⟩,
 ⟨(some 14), .ext (.tmp 9) 2, none, []⟩,
 ⟨(some 3), .mv (.tmp 12), none, []⟩,
 ⟨(some 4), .mv (.tmp 13), none, []⟩,
 ⟨(some 5), .mv (.tmp 14), none, []⟩])
 (.seq
 (.reg [
 ⟨(some 15), .mv (.tmp 3), none, []⟩,
 ⟨(some 2), .mv (.tmp 15), none, []⟩])
 .ret))))
def c_ridgewayref07_four : AF := ⟨b_ridgewayref07_four, 16, [.tmp 2]⟩
theorem p_ridgewayref07_four : prepFunc Try.prog 89 = some c_ridgewayref07_four ∧ hasBody Try.prog 89 = true := ⟨by kernel_rfl, by kernel_rfl⟩
def b_attr_segment : AC :=
 (.seq
 (.reg [
 ⟨(some 2), .mv (.val (.slice .full 0 [])), none, []⟩])
 (.seq
 (.seq
 (.reg [
 ⟨(some 6), .mv (.tmp 0), none, []⟩,
 ⟨(some 7), .len (.tmp 6), none, []⟩,
 ⟨(some 8), .bin .eql (.tmp 7) (.val (.int .i64 0)), none, []⟩])
 (.cond (.tmp 8)
 (.seq
 (.reg [
 ⟨(some 2), .mv (.val (.slice .full 0 [])), none, []⟩])
 .ret)
 .skip))
 (.seq
 (.reg [
 ⟨(some 9), .mv (.tmp 0), none, []⟩,
 ⟨(some 10), .len (.tmp 9), none, []⟩,
 ⟨(some 11), .conv .u8 (.tmp 10), none, []⟩,
 ⟨(some 12), .lit 5 1 [0] [(.val (.int .u8 2)), (.tmp 11)], none, []⟩,
 ⟨(some 3), .mv (.tmp 12), none, []⟩])
 (.seq
 (.seq
 (.reg [
 ⟨(some 13), .mv (.tmp 0), none, []⟩,
 ⟨(some 14), .len (.tmp 13), none, []⟩,
 ⟨(some 15), .mv (.val (.int .i64 0)), none, []⟩])
 (.block 0
 (.loop
 (.seq
 (.reg [
 ⟨(some 16), .bin .lss (.tmp 15) (.tmp 14), none, []⟩])
 (.seq
 (.cond (.tmp 16)
 .skip
 (.exit 0))
 (.seq
 (.block 1
 (.seq
 (.reg [
 ⟨(some 17), .idxA 1 (.tmp 13) (.tmp 15), none, []⟩,
 ⟨(some 18), .ld none (.tmp 17), none, []⟩,
 ⟨(some 5), .mv (.tmp 18), none, []⟩])
 (.reg [
 ⟨(some 19), .mv (.tmp 3), none, []⟩,
 ⟨(some 20), .mv (.tmp 5), none, []⟩,
 ⟨(some 21), .callS 30 [(.val (.slice .full 0 [])), (.tmp 20), (.val (.int .i64 4))], none, []⟩,
 ⟨(some 22), .app 5 1 1 (.tmp 19) (.tmp 21), none, []⟩,
 ⟨(some 3), .mv (.tmp 22), none, []⟩])))
 (.reg [
 ⟨(some 23), .bin .add (.tmp 15) (.val (.int .i64 1)), none, []⟩,
 ⟨(some 15), .mv (.tmp 23), none, []⟩])))))))
 (.seq
 (.reg [
 ⟨(some 24), .mv (.tmp 3), none, []⟩,
 ⟨(some 2), .mv (.tmp 24), none, []⟩])
 .ret)))))
def c_attr_segment : AF := ⟨b_attr_segment, 25, [.tmp 2]⟩
theorem p_attr_segment : prepFunc Try.prog 90 = some c_attr_segment ∧ hasBody Try.prog 90 = true := ⟨by kernel_rfl, by kernel_rfl⟩
def b_attr_number : AC :=
 (.seq
 (.reg [
 ⟨(some 2), .mv (.val (.int .i64 0)), none, []⟩,
 ⟨(some 3), .mv (.val (.bool false)), none, []⟩])
 (.seq
 (.reg [
 ⟨(some 8), .mv (.tmp 0), none, []⟩,
 ⟨(some 9), .callS 63 [(.tmp 8), (.val (.int .i64 4))], none, []⟩,
 ⟨(some 7), .mv (.tmp 9), none, []⟩,
 ⟨(some 10), .ext (.tmp 7) 0, none, []⟩,
 ⟨(some 11), .ext (.tmp 7) 1, none, []⟩,
 ⟨(some 12), .ext (.tmp 7) 2, none, []⟩,
 ⟨(some 4), .mv (.tmp 10), none, []⟩,
 ⟨(some 5), .mv (.tmp 11), none, []⟩,
 ⟨(some 6), .mv (.tmp 12), none, []⟩])
 (.seq
 (.reg [
 ⟨(some 13), .mv (.tmp 4), none, []⟩,
 ⟨(some 14), .mv (.tmp 4), none, []⟩,
 ⟨(some 15), .bin .neq (.tmp 14) (.val (.int .i64 0)), none, []⟩,
 ⟨(some 16), .mv (.tmp 15), none, []⟩,
 ⟨(some 17), .mv (.tmp 5), some (16, true), []⟩,
 ⟨(some 18), .len (.tmp 17), some (16, true), []⟩,
 ⟨(some 19), .bin .eql (.tmp 18) (.val (.int .i64 0)), some (16, true), []⟩,
 ⟨(some 20), .pick (.tmp 16) (.tmp 19) (.val (.bool false)), none, []⟩,
 ⟨(some 2), .mv (.tmp 13), none, []⟩,
 ⟨(some 3), .mv (.tmp 20), none, []⟩])
 .ret)))
def c_attr_number : AF := ⟨b_attr_number, 21, [.tmp 2, .tmp 3]⟩
theorem p_attr_number : prepFunc Try.prog 91 = some c_attr_number ∧ hasBody Try.prog 91 = true := ⟨by kernel_rfl, by kernel_rfl⟩
def b_ridgewayref02_size : AC :=
 (.seq
 (.reg [
 ⟨(some 2), .mv (.val (.int .i64 0)), none, []⟩])
 (.seq
 (.reg [
 ⟨(some 3), .mv (.val (.int .i64 1)), none, []⟩])
 (.seq
 (.seq
 (.reg [
 ⟨(some 5), .mv (.tmp 0), none, []⟩,
 ⟨(some 6), .mx (.tmp 5) (.val (.int .i64 0)), none, []⟩,
 ⟨(some 4), .mv (.tmp 6), none, []⟩])
 (.block 0
 (.loop
 (.seq
 (.seq
 (.reg [
 ⟨(some 7), .mv (.tmp 4), none, []⟩,
 ⟨(some 8), .bin .lss (.tmp 7) (.val (.int .i64 32)), none, []⟩])
 (.cond (.tmp 8)
 .skip
 (.exit 0)))
 (.seq
 (.block 1
 (.reg [
 ⟨(some 11), .mv (.tmp 3), none, []⟩,
 ⟨(some 12), .bin .mul (.tmp 11) (.val (.int .i64 2)), none, []⟩,
 ⟨(some 3), .mv (.tmp 12), none, []⟩]))
 (.reg [
 ⟨(some 9), .mv (.tmp 4), none, []⟩,
 ⟨(some 10), .bin .add (.tmp 9) (.val (.int .i64 1)), none, []⟩,
 ⟨(some 4), .mv (.tmp 10), none, []⟩]))))))
 (.seq
 (.reg [
 ⟨(some 13), .mv (.tmp 3), none, []⟩,
 ⟨(some 2), .mv (.tmp 13), none, []⟩])
 .ret))))
def c_ridgewayref02_size : AF := ⟨b_ridgewayref02_size, 14, [.tmp 2]⟩
theorem p_ridgewayref02_size : prepFunc Try.prog 92 = some c_ridgewayref02_size ∧ hasBody Try.prog 92 = true := ⟨by kernel_rfl, by kernel_rfl⟩
def tab : Tab := [(3, c_ridgewaylaw08_UpdateIs), (11, c_ridgewaylaw08_awake), (12, c_ridgewayref08_Few), (13, c_update_Get), (14, c_ridgewayref08_Get), (15, c_ridgewayref08_Same), (16, c_ridgewayref03_SameNote), (17, c_update_Sane), (18, c_ridgewayref08_Sane), (19, c_ridgewayref03_Same), (20, c_update_Put), (21, c_ridgewayref08_Put), (23, c_update_Pack), (25, c_msg_Sane), (26, c_prefix_Sane), (27, c_ridgewayref07_SamePath), (28, c_attr_Sane), (29, c_prefix_Put), (30, c_octet_Put), (31, c_attr_All), (32, c_attr_Judge), (33, c_ridgewayref02_Same), (34, c_update_counted), (35, c_prefix_All), (36, c_ridgewayref03_Sane), (37, c_ridgewayref08_bad), (38, c_ridgewayref08_part), (39, c_ridgewayref02_All), (40, c_ridgewayref07_All), (41, c_ridgewayref07_Judge), (42, c_ridgewayref08_prefixes), (43, c_ridgewayref07_Sane), (44, c_update_body), (45, c_update_prefixes), (46, c_update_attributes), (47, c_ridgewayref08_octets), (48, c_ridgewayref07_Of), (49, c_ridgewayref07_Put), (50, c_ridgewayref01_Put), (51, c_update_pack), (52, c_update_Pack_1), (53, c_update_Pack_2), (55, c_msg_Least), (56, c_msg_wrong), (57, c_prefix_Mask), (58, c_prefix_size), (59, c_attr_Get), (60, c_attr_fatal), (61, c_attr_Put), (62, c_attr_kinds), (63, c_octet_Get), (64, c_octet_Take), (65, c_prefix_Get), (66, c_ridgewayref03_fits), (67, c_ridgewayref01_Get), (68, c_ridgewayref01_Take), (69, c_ridgewayref02_Get), (70, c_ridgewayref07_Get), (71, c_ridgewayref07_judge__has), (72, c_ridgewayref07_judge__one), (73, c_ridgewayref02_Sane), (74, c_attr_Of), (75, c_ridgewayref02_Put), (76, c_ridgewayref07_right), (77, c_update_pack_1), (79, c_attr_octetSized), (80, c_attr_readOrigin), (81, c_attr_readAs), (82, c_attr_readHop), (83, c_attr_readMed), (84, c_attr_readOtc), (85, c_ridgewayref03_Least), (86, c_ridgewayref02_Mask), (87, c_ridgewayref07_judge__need), (88, c_ridgewayref07_ases), (89, c_ridgewayref07_four), (90, c_attr_segment), (91, c_attr_number), (92, c_ridgewayref02_size)]
theorem tab_ok : Tab.Ok Try.prog tab := ⟨p_ridgewaylaw08_UpdateIs, p_ridgewaylaw08_awake, p_ridgewayref08_Few, p_update_Get, p_ridgewayref08_Get, p_ridgewayref08_Same, p_ridgewayref03_SameNote, p_update_Sane, p_ridgewayref08_Sane, p_ridgewayref03_Same, p_update_Put, p_ridgewayref08_Put, p_update_Pack, p_msg_Sane, p_prefix_Sane, p_ridgewayref07_SamePath, p_attr_Sane, p_prefix_Put, p_octet_Put, p_attr_All, p_attr_Judge, p_ridgewayref02_Same, p_update_counted, p_prefix_All, p_ridgewayref03_Sane, p_ridgewayref08_bad, p_ridgewayref08_part, p_ridgewayref02_All, p_ridgewayref07_All, p_ridgewayref07_Judge, p_ridgewayref08_prefixes, p_ridgewayref07_Sane, p_update_body, p_update_prefixes, p_update_attributes, p_ridgewayref08_octets, p_ridgewayref07_Of, p_ridgewayref07_Put, p_ridgewayref01_Put, p_update_pack, p_update_Pack_1, p_update_Pack_2, p_msg_Least, p_msg_wrong, p_prefix_Mask, p_prefix_size, p_attr_Get, p_attr_fatal, p_attr_Put, p_attr_kinds, p_octet_Get, p_octet_Take, p_prefix_Get, p_ridgewayref03_fits, p_ridgewayref01_Get, p_ridgewayref01_Take, p_ridgewayref02_Get, p_ridgewayref07_Get, p_ridgewayref07_judge__has, p_ridgewayref07_judge__one, p_ridgewayref02_Sane, p_attr_Of, p_ridgewayref02_Put, p_ridgewayref07_right, p_update_pack_1, p_attr_octetSized, p_attr_readOrigin, p_attr_readAs, p_attr_readHop, p_attr_readMed, p_attr_readOtc, p_ridgewayref03_Least, p_ridgewayref02_Mask, p_ridgewayref07_judge__need, p_ridgewayref07_ases, p_ridgewayref07_four, p_attr_segment, p_attr_number, p_ridgewayref02_size, trivial⟩
end Go.Proofs.Ytkdodhkiemfpeaa
