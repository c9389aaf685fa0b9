/- Plain forms of functions. -/
import Derived.Test.YtgakgilaikgboaaAv16
import Derived.Test.YtgakgilaikgboaaProg
import Derived.KernelRfl
namespace Go.Proofs.Ytgakgilaikgboaa
set_option maxRecDepth 100000
set_option maxHeartbeats 1000000
def b_ridgewaylaw06_OpenFields : AC :=
  (.seq
   (.reg [
     ⟨(some 2), .box 23 4 (.tmp 0), none, []⟩,
     ⟨(some 4), .mv (.val (.bool false)), none, []⟩])
   (.seq
    (.reg [
      ⟨(some 16), .callS 15 [], none, []⟩,
      ⟨(some 5), .mv (.tmp 16), none, []⟩])
    (.seq
     (.reg [
       ⟨(some 17), .ld (some 4) (.tmp 2), none, []⟩,
       ⟨(some 18), .callS 22 [(.tmp 17)], none, []⟩,
       ⟨(some 6), .box 26 2 (.val (.agg [(.int .i64 0), (.slice .full 0 [])])), none, []⟩,
       ⟨none, .st 2 (.tmp 6) (.tmp 18), none, []⟩])
     (.seq
      (.seq
       (.reg [
         ⟨(some 19), .ld (some 4) (.tmp 2), none, []⟩,
         ⟨(some 20), .callS 19 [(.tmp 19)], none, []⟩,
         ⟨(some 21), .un .not (.tmp 20), none, []⟩,
         ⟨(some 22), .mv (.tmp 21), none, []⟩,
         ⟨(some 23), .off 1 (.tmp 6), some (22, false), []⟩,
         ⟨(some 24), .ld none (.tmp 23), some (22, false), []⟩,
         ⟨(some 25), .len (.tmp 24), some (22, false), []⟩,
         ⟨(some 26), .bin .lss (.tmp 25) (.val (.int .i64 10)), some (22, false), []⟩,
         ⟨(some 27), .pick (.tmp 22) (.val (.bool true)) (.tmp 26), none, []⟩])
       (.cond (.tmp 27)
        (.seq
         (.reg [
           ⟨(some 28), .mv (.tmp 5), none, []⟩,
           ⟨(some 29), .mv (.tmp 28), none, []⟩,
           ⟨(some 30), .ld (some 4) (.tmp 2), some (29, true), []⟩,
           ⟨(some 31), .callS 19 [(.tmp 30)], some (29, true), []⟩,
           ⟨(some 32), .un .not (.tmp 31), some (29, true), []⟩,
           ⟨(some 33), .pick (.tmp 29) (.tmp 32) (.val (.bool false)), none, []⟩,
           ⟨(some 4), .mv (.tmp 33), none, []⟩])
         .ret)
        .skip))
      (.seq
       (.reg [
         ⟨(some 34), .lit 5 1 [0] [], none, []⟩,
         ⟨(some 35), .off 1 (.tmp 6), none, []⟩,
         ⟨(some 36), .ld none (.tmp 35), none, []⟩,
         ⟨(some 37), .app 5 1 1 (.tmp 34) (.tmp 36), none, []⟩,
         ⟨(some 7), .mv (.tmp 37), none, []⟩])
       (.seq
        (.reg [
          ⟨(some 38), .lit 5 1 [0] [], none, []⟩,
          ⟨(some 39), .off 1 (.tmp 6), none, []⟩,
          ⟨(some 40), .ld none (.tmp 39), none, []⟩,
          ⟨(some 41), .app 5 1 1 (.tmp 38) (.tmp 40), none, []⟩,
          ⟨(some 8), .mv (.tmp 41), none, []⟩])
        (.seq
         (.reg [
           ⟨(some 42), .lit 5 1 [0] [], none, []⟩,
           ⟨(some 43), .off 1 (.tmp 6), none, []⟩,
           ⟨(some 44), .ld none (.tmp 43), none, []⟩,
           ⟨(some 45), .app 5 1 1 (.tmp 42) (.tmp 44), none, []⟩,
           ⟨(some 9), .mv (.tmp 45), none, []⟩])
         (.seq
          (.reg [
            ⟨(some 46), .mv (.tmp 7), none, []⟩,
            ⟨(some 47), .mv (.tmp 1), none, []⟩,
            ⟨(some 48), .idxA 1 (.tmp 46) (.val (.int .i64 0)), none, []⟩,
            ⟨none, .st 1 (.tmp 48) (.tmp 47), none, []⟩])
          (.seq
           (.reg [
             ⟨(some 49), .mv (.tmp 8), none, []⟩,
             ⟨(some 50), .idxA 1 (.tmp 49) (.val (.int .i64 3)), none, []⟩,
             ⟨none, .st 1 (.tmp 50) (.val (.int .u8 0)), none, []⟩])
           (.seq
            (.reg [
              ⟨(some 51), .mv (.tmp 8), none, []⟩,
              ⟨(some 52), .mv (.tmp 1), none, []⟩,
              ⟨(some 53), .bin .and (.tmp 52) (.val (.int .u8 1)), none, []⟩,
              ⟨(some 54), .bin .add (.val (.int .u8 1)) (.tmp 53), none, []⟩,
              ⟨(some 55), .idxA 1 (.tmp 51) (.val (.int .i64 4)), none, []⟩,
              ⟨none, .st 1 (.tmp 55) (.tmp 54), none, []⟩])
            (.seq
             (.reg [
               ⟨(some 56), .mv (.tmp 9), none, []⟩,
               ⟨(some 57), .idxA 1 (.tmp 56) (.val (.int .i64 5)), none, []⟩,
               ⟨none, .st 1 (.tmp 57) (.val (.int .u8 0)), none, []⟩])
             (.seq
              (.reg [
                ⟨(some 58), .mv (.tmp 9), none, []⟩,
                ⟨(some 59), .idxA 1 (.tmp 58) (.val (.int .i64 6)), none, []⟩,
                ⟨none, .st 1 (.tmp 59) (.val (.int .u8 0)), none, []⟩])
              (.seq
               (.reg [
                 ⟨(some 60), .mv (.tmp 9), none, []⟩,
                 ⟨(some 61), .idxA 1 (.tmp 60) (.val (.int .i64 7)), none, []⟩,
                 ⟨none, .st 1 (.tmp 61) (.val (.int .u8 0)), none, []⟩])
               (.seq
                (.reg [
                  ⟨(some 62), .mv (.tmp 9), none, []⟩,
                  ⟨(some 63), .idxA 1 (.tmp 62) (.val (.int .i64 8)), none, []⟩,
                  ⟨none, .st 1 (.tmp 63) (.val (.int .u8 0)), none, []⟩])
                (.seq
                 (.reg [
                   ⟨(some 65), .mv (.tmp 7), none, []⟩,
                   ⟨(some 66), .bld [(.int .i64 0), (.slice .full 0 [])] [(0, 1, (.val (.int .i64 1))), (1, 1, (.tmp 65))], none, []⟩,
                   ⟨(some 67), .off 0 (.tmp 2), none, []⟩,
                   ⟨(some 68), .ld none (.tmp 67), none, []⟩,
                   ⟨(some 69), .callS 16 [(.tmp 66), (.tmp 68)], none, []⟩,
                   ⟨(some 64), .mv (.tmp 69), none, []⟩,
                   ⟨(some 70), .ext (.tmp 64) 0, none, []⟩,
                   ⟨(some 71), .ext (.tmp 64) 1, none, []⟩,
                   ⟨(some 10), .box 23 4 (.val (.agg [(.int .i64 0), (.int .i64 0), (.int .i64 0), (.int .i64 0)])), none, []⟩,
                   ⟨(some 11), .box 29 3 (.val (.agg [(.int .i64 0), (.int .i64 0), (.slice .full 0 [])])), none, []⟩,
                   ⟨none, .st 4 (.tmp 10) (.tmp 70), none, []⟩,
                   ⟨none, .st 3 (.tmp 11) (.tmp 71), none, []⟩])
                 (.seq
                  (.reg [
                    ⟨(some 73), .mv (.tmp 8), none, []⟩,
                    ⟨(some 74), .bld [(.int .i64 0), (.slice .full 0 [])] [(0, 1, (.val (.int .i64 1))), (1, 1, (.tmp 73))], none, []⟩,
                    ⟨(some 75), .off 0 (.tmp 2), none, []⟩,
                    ⟨(some 76), .ld none (.tmp 75), none, []⟩,
                    ⟨(some 77), .callS 16 [(.tmp 74), (.tmp 76)], none, []⟩,
                    ⟨(some 72), .mv (.tmp 77), none, []⟩,
                    ⟨(some 78), .ext (.tmp 72) 0, none, []⟩,
                    ⟨(some 79), .ext (.tmp 72) 1, none, []⟩,
                    ⟨(some 12), .box 23 4 (.val (.agg [(.int .i64 0), (.int .i64 0), (.int .i64 0), (.int .i64 0)])), none, []⟩,
                    ⟨(some 13), .box 29 3 (.val (.agg [(.int .i64 0), (.int .i64 0), (.slice .full 0 [])])), none, []⟩,
                    ⟨none, .st 4 (.tmp 12) (.tmp 78), none, []⟩,
                    ⟨none, .st 3 (.tmp 13) (.tmp 79), none, []⟩])
                  (.seq
                   (.reg [
                     ⟨(some 81), .mv (.tmp 9), none, []⟩,
                     ⟨(some 82), .bld [(.int .i64 0), (.slice .full 0 [])] [(0, 1, (.val (.int .i64 1))), (1, 1, (.tmp 81))], none, []⟩,
                     ⟨(some 83), .off 0 (.tmp 2), none, []⟩,
                     ⟨(some 84), .ld none (.tmp 83), none, []⟩,
                     ⟨(some 85), .callS 16 [(.tmp 82), (.tmp 84)], none, []⟩,
                     ⟨(some 80), .mv (.tmp 85), none, []⟩,
                     ⟨(some 86), .ext (.tmp 80) 0, none, []⟩,
                     ⟨(some 87), .ext (.tmp 80) 1, none, []⟩,
                     ⟨(some 14), .box 23 4 (.val (.agg [(.int .i64 0), (.int .i64 0), (.int .i64 0), (.int .i64 0)])), none, []⟩,
                     ⟨(some 15), .box 29 3 (.val (.agg [(.int .i64 0), (.int .i64 0), (.slice .full 0 [])])), none, []⟩,
                     ⟨none, .st 4 (.tmp 14) (.tmp 86), none, []⟩,
                     ⟨none, .st 3 (.tmp 15) (.tmp 87), none, []⟩])
                   (.seq
                    (.reg [
                      ⟨(some 88), .mv (.tmp 5), none, []⟩,
                      ⟨(some 89), .mv (.tmp 88), none, []⟩,
                      ⟨(some 90), .mv (.tmp 1), some (89, true), []⟩,
                      ⟨(some 91), .bin .eql (.tmp 90) (.val (.int .u8 4)), some (89, true), []⟩,
                      ⟨(some 92), .mv (.tmp 91), some (89, true), []⟩,
                      ⟨(some 93), .off 0 (.tmp 11), some (92, false), []⟩,
                      ⟨(some 94), .ld none (.tmp 93), some (92, false), []⟩,
                      ⟨(some 95), .bin .eql (.tmp 94) (.val (.int .i64 2)), some (92, false), []⟩,
                      ⟨(some 96), .mv (.tmp 95), some (92, false), []⟩,
                      ⟨(some 97), .off 1 (.tmp 11), some (96, true), []⟩,
                      ⟨(some 98), .ld none (.tmp 97), some (96, true), []⟩,
                      ⟨(some 99), .bin .eql (.tmp 98) (.val (.int .i64 1)), some (96, true), []⟩,
                      ⟨(some 100), .pick (.tmp 96) (.tmp 99) (.val (.bool false)), some (92, false), []⟩,
                      ⟨(some 101), .mv (.tmp 100), some (92, false), []⟩,
                      ⟨(some 102), .off 2 (.tmp 11), some (101, true), []⟩,
                      ⟨(some 103), .ld none (.tmp 102), some (101, true), []⟩,
                      ⟨(some 104), .b2s (.tmp 103), some (101, true), []⟩,
                      ⟨(some 105), .lit 5 1 [0] [(.val (.int .u8 0)), (.val (.int .u8 4))], some (101, true), []⟩,
                      ⟨(some 106), .b2s (.tmp 105), some (101, true), []⟩,
                      ⟨(some 107), .bin .eql (.tmp 104) (.tmp 106), some (101, true), []⟩,
                      ⟨(some 108), .pick (.tmp 101) (.tmp 107) (.val (.bool false)), some (92, false), []⟩,
                      ⟨(some 109), .pick (.tmp 92) (.val (.bool true)) (.tmp 108), some (89, true), []⟩,
                      ⟨(some 110), .pick (.tmp 89) (.tmp 109) (.val (.bool false)), none, []⟩,
                      ⟨(some 111), .mv (.tmp 110), none, []⟩,
                      ⟨(some 112), .off 0 (.tmp 13), some (111, true), []⟩,
                      ⟨(some 113), .ld none (.tmp 112), some (111, true), []⟩,
                      ⟨(some 114), .bin .eql (.tmp 113) (.val (.int .i64 2)), some (111, true), []⟩,
                      ⟨(some 115), .pick (.tmp 111) (.tmp 114) (.val (.bool false)), none, []⟩,
                      ⟨(some 116), .mv (.tmp 115), none, []⟩,
                      ⟨(some 117), .off 1 (.tmp 13), some (116, true), []⟩,
                      ⟨(some 118), .ld none (.tmp 117), some (116, true), []⟩,
                      ⟨(some 119), .bin .eql (.tmp 118) (.val (.int .i64 6)), some (116, true), []⟩,
                      ⟨(some 120), .pick (.tmp 116) (.tmp 119) (.val (.bool false)), none, []⟩,
                      ⟨(some 121), .mv (.tmp 120), none, []⟩,
                      ⟨(some 122), .off 0 (.tmp 15), some (121, true), []⟩,
                      ⟨(some 123), .ld none (.tmp 122), some (121, true), []⟩,
                      ⟨(some 124), .bin .eql (.tmp 123) (.val (.int .i64 2)), some (121, true), []⟩,
                      ⟨(some 125), .pick (.tmp 121) (.tmp 124) (.val (.bool false)), none, []⟩,
                      ⟨(some 126), .mv (.tmp 125), none, []⟩,
                      ⟨(some 127), .off 1 (.tmp 15), some (126, true), []⟩,
                      ⟨(some 128), .ld none (.tmp 127), some (126, true), []⟩,
                      ⟨(some 129), .bin .eql (.tmp 128) (.val (.int .i64 3)), some (126, true), []⟩,
                      ⟨(some 130), .pick (.tmp 126) (.tmp 129) (.val (.bool false)), none, []⟩,
                      ⟨(some 4), .mv (.tmp 130), none, []⟩])
                    .ret))))))))))))))))))
def c_ridgewaylaw06_OpenFields : AF := ⟨b_ridgewaylaw06_OpenFields, 131, [.tmp 4]⟩
theorem p_ridgewaylaw06_OpenFields : prepFunc Try.prog 7 = some c_ridgewaylaw06_OpenFields ∧ hasBody Try.prog 7 = true := ⟨by kernel_rfl, by kernel_rfl⟩
def b_ridgewaylaw06_awake : AC :=
  (.seq
   (.reg [
     ⟨(some 0), .mv (.val (.bool false)), none, []⟩])
   (.seq
    (.reg [
      ⟨(some 7), .bld [(.int .i64 0), (.int .i64 0), (.int .i64 0), (.int .i64 0)] [(0, 1, (.val (.int .i64 70000))), (1, 1, (.val (.int .i64 90))), (2, 1, (.val (.int .i64 167772161))), (3, 1, (.val (.int .i64 (-1))))], none, []⟩,
      ⟨(some 1), .box 23 4 (.val (.agg [(.int .i64 0), (.int .i64 0), (.int .i64 0), (.int .i64 0)])), none, []⟩,
      ⟨none, .st 4 (.tmp 1) (.tmp 7), none, []⟩])
    (.seq
     (.reg [
       ⟨(some 8), .ld (some 4) (.tmp 1), none, []⟩,
       ⟨(some 9), .callS 22 [(.tmp 8)], none, []⟩,
       ⟨(some 2), .box 26 2 (.val (.agg [(.int .i64 0), (.slice .full 0 [])])), none, []⟩,
       ⟨none, .st 2 (.tmp 2) (.tmp 9), none, []⟩])
     (.seq
      (.reg [
        ⟨(some 11), .ld (some 2) (.tmp 2), none, []⟩,
        ⟨(some 12), .callS 16 [(.tmp 11), (.val (.int .i64 70000))], none, []⟩,
        ⟨(some 10), .mv (.tmp 12), none, []⟩,
        ⟨(some 13), .ext (.tmp 10) 0, none, []⟩,
        ⟨(some 14), .ext (.tmp 10) 1, none, []⟩,
        ⟨(some 3), .box 23 4 (.val (.agg [(.int .i64 0), (.int .i64 0), (.int .i64 0), (.int .i64 0)])), none, []⟩,
        ⟨(some 4), .box 29 3 (.val (.agg [(.int .i64 0), (.int .i64 0), (.slice .full 0 [])])), none, []⟩,
        ⟨none, .st 4 (.tmp 3) (.tmp 13), none, []⟩,
        ⟨none, .st 3 (.tmp 4) (.tmp 14), none, []⟩])
      (.seq
       (.reg [
         ⟨(some 16), .ld (some 2) (.tmp 2), none, []⟩,
         ⟨(some 17), .callS 16 [(.tmp 16), (.val (.int .i64 70001))], none, []⟩,
         ⟨(some 15), .mv (.tmp 17), none, []⟩,
         ⟨(some 18), .ext (.tmp 15) 0, none, []⟩,
         ⟨(some 19), .ext (.tmp 15) 1, none, []⟩,
         ⟨(some 5), .box 23 4 (.val (.agg [(.int .i64 0), (.int .i64 0), (.int .i64 0), (.int .i64 0)])), none, []⟩,
         ⟨(some 6), .box 29 3 (.val (.agg [(.int .i64 0), (.int .i64 0), (.slice .full 0 [])])), none, []⟩,
         ⟨none, .st 4 (.tmp 5) (.tmp 18), none, []⟩,
         ⟨none, .st 3 (.tmp 6) (.tmp 19), none, []⟩])
       (.seq
        (.reg [
          ⟨(some 20), .off 0 (.tmp 2), none, []⟩,
          ⟨(some 21), .ld none (.tmp 20), none, []⟩,
          ⟨(some 22), .bin .eql (.tmp 21) (.val (.int .i64 1)), none, []⟩,
          ⟨(some 23), .mv (.tmp 22), none, []⟩,
          ⟨(some 24), .off 1 (.tmp 2), some (23, true), []⟩,
          ⟨(some 25), .ld none (.tmp 24), some (23, true), []⟩,
          ⟨(some 26), .b2s (.tmp 25), some (23, true), []⟩,
          ⟨(some 27), .bin .eql (.tmp 26) (.val (.str ⟨⟨[4, 91, 160, 0, 90, 10, 0, 0, 1, 8, 2, 6, 65, 4, 0, 1, 17, 112]⟩⟩)), some (23, true), []⟩,
          ⟨(some 28), .pick (.tmp 23) (.tmp 27) (.val (.bool false)), none, []⟩,
          ⟨(some 29), .mv (.tmp 28), none, []⟩,
          ⟨(some 30), .ld (some 4) (.tmp 3), some (29, true), []⟩,
          ⟨(some 31), .ld (some 4) (.tmp 1), some (29, true), []⟩,
          ⟨(some 32), .eqA false 4 [(0, 0), (1, 0), (2, 0), (3, 0)] (.tmp 30) (.tmp 31), some (29, true), []⟩,
          ⟨(some 33), .pick (.tmp 29) (.tmp 32) (.val (.bool false)), none, []⟩,
          ⟨(some 34), .mv (.tmp 33), none, []⟩,
          ⟨(some 35), .off 0 (.tmp 4), some (34, true), []⟩,
          ⟨(some 36), .ld none (.tmp 35), some (34, true), []⟩,
          ⟨(some 37), .bin .eql (.tmp 36) (.val (.int .i64 0)), some (34, true), []⟩,
          ⟨(some 38), .pick (.tmp 34) (.tmp 37) (.val (.bool false)), none, []⟩,
          ⟨(some 39), .mv (.tmp 38), none, []⟩,
          ⟨(some 40), .off 0 (.tmp 6), some (39, true), []⟩,
          ⟨(some 41), .ld none (.tmp 40), some (39, true), []⟩,
          ⟨(some 42), .bin .eql (.tmp 41) (.val (.int .i64 2)), some (39, true), []⟩,
          ⟨(some 43), .pick (.tmp 39) (.tmp 42) (.val (.bool false)), none, []⟩,
          ⟨(some 44), .mv (.tmp 43), none, []⟩,
          ⟨(some 45), .off 1 (.tmp 6), some (44, true), []⟩,
          ⟨(some 46), .ld none (.tmp 45), some (44, true), []⟩,
          ⟨(some 47), .bin .eql (.tmp 46) (.val (.int .i64 2)), some (44, true), []⟩,
          ⟨(some 48), .pick (.tmp 44) (.tmp 47) (.val (.bool false)), none, []⟩,
          ⟨(some 49), .mv (.tmp 48), none, []⟩,
          ⟨(some 50), .ld (some 4) (.tmp 1), some (49, true), []⟩,
          ⟨(some 51), .callS 19 [(.tmp 50)], some (49, true), []⟩,
          ⟨(some 52), .pick (.tmp 49) (.tmp 51) (.val (.bool false)), none, []⟩,
          ⟨(some 0), .mv (.tmp 52), none, []⟩])
        .ret))))))
def c_ridgewaylaw06_awake : AF := ⟨b_ridgewaylaw06_awake, 53, [.tmp 0]⟩
theorem p_ridgewaylaw06_awake : prepFunc Try.prog 15 = some c_ridgewaylaw06_awake ∧ hasBody Try.prog 15 = true := ⟨by kernel_rfl, by kernel_rfl⟩
def b_open_Get : AC :=
  (.seq
   (.reg [
     ⟨(some 2), .box 26 2 (.tmp 0), none, []⟩,
     ⟨(some 4), .box 23 4 (.val (.agg [(.int .i64 0), (.int .i64 0), (.int .i64 0), (.int .i64 0)])), none, []⟩,
     ⟨(some 5), .box 29 3 (.val (.agg [(.int .i64 0), (.int .i64 0), (.slice .full 0 [])])), none, []⟩])
   (.seq
    (.seq
     (.reg [
       ⟨(some 19), .off 0 (.tmp 2), none, []⟩,
       ⟨(some 20), .ld none (.tmp 19), none, []⟩,
       ⟨(some 21), .bin .neq (.tmp 20) (.val (.int .i64 1)), none, []⟩,
       ⟨(some 22), .mv (.tmp 21), none, []⟩,
       ⟨(some 23), .ld (some 2) (.tmp 2), some (22, false), []⟩,
       ⟨(some 24), .callS 24 [(.tmp 23)], some (22, false), []⟩,
       ⟨(some 25), .un .not (.tmp 24), some (22, false), []⟩,
       ⟨(some 26), .pick (.tmp 22) (.val (.bool true)) (.tmp 25), none, []⟩])
     (.cond (.tmp 26)
      (.seq
       (.reg [
         ⟨(some 27), .bld [(.int .i64 0), (.int .i64 0), (.int .i64 0), (.int .i64 0)] [], none, []⟩,
         ⟨(some 28), .bld [(.int .i64 0), (.int .i64 0), (.slice .full 0 [])] [(0, 1, (.val (.int .i64 2))), (1, 1, (.val (.int .i64 0)))], none, []⟩,
         ⟨none, .st 4 (.tmp 4) (.tmp 27), none, []⟩,
         ⟨none, .st 3 (.tmp 5) (.tmp 28), none, []⟩])
       .ret)
      .skip))
    (.seq
     (.reg [
       ⟨(some 30), .off 1 (.tmp 2), none, []⟩,
       ⟨(some 31), .ld none (.tmp 30), none, []⟩,
       ⟨(some 32), .callS 41 [(.tmp 31), (.val (.int .i64 1))], none, []⟩,
       ⟨(some 29), .mv (.tmp 32), none, []⟩,
       ⟨(some 33), .ext (.tmp 29) 0, none, []⟩,
       ⟨(some 34), .ext (.tmp 29) 1, none, []⟩,
       ⟨(some 35), .ext (.tmp 29) 2, none, []⟩,
       ⟨(some 6), .mv (.tmp 33), none, []⟩,
       ⟨(some 7), .mv (.tmp 34), none, []⟩,
       ⟨(some 8), .mv (.tmp 35), none, []⟩])
     (.seq
      (.reg [
        ⟨(some 37), .mv (.tmp 7), none, []⟩,
        ⟨(some 38), .callS 41 [(.tmp 37), (.val (.int .i64 2))], none, []⟩,
        ⟨(some 36), .mv (.tmp 38), none, []⟩,
        ⟨(some 39), .ext (.tmp 36) 0, none, []⟩,
        ⟨(some 40), .ext (.tmp 36) 1, none, []⟩,
        ⟨(some 41), .ext (.tmp 36) 2, none, []⟩,
        ⟨(some 9), .mv (.tmp 39), none, []⟩,
        ⟨(some 7), .mv (.tmp 40), none, []⟩,
        ⟨(some 10), .mv (.tmp 41), none, []⟩])
      (.seq
       (.reg [
         ⟨(some 43), .mv (.tmp 7), none, []⟩,
         ⟨(some 44), .callS 41 [(.tmp 43), (.val (.int .i64 2))], none, []⟩,
         ⟨(some 42), .mv (.tmp 44), none, []⟩,
         ⟨(some 45), .ext (.tmp 42) 0, none, []⟩,
         ⟨(some 46), .ext (.tmp 42) 1, none, []⟩,
         ⟨(some 47), .ext (.tmp 42) 2, none, []⟩,
         ⟨(some 11), .mv (.tmp 45), none, []⟩,
         ⟨(some 7), .mv (.tmp 46), none, []⟩,
         ⟨(some 12), .mv (.tmp 47), none, []⟩])
       (.seq
        (.reg [
          ⟨(some 49), .mv (.tmp 7), none, []⟩,
          ⟨(some 50), .callS 41 [(.tmp 49), (.val (.int .i64 4))], none, []⟩,
          ⟨(some 48), .mv (.tmp 50), none, []⟩,
          ⟨(some 51), .ext (.tmp 48) 0, none, []⟩,
          ⟨(some 52), .ext (.tmp 48) 1, none, []⟩,
          ⟨(some 53), .ext (.tmp 48) 2, none, []⟩,
          ⟨(some 13), .mv (.tmp 51), none, []⟩,
          ⟨(some 7), .mv (.tmp 52), none, []⟩,
          ⟨(some 14), .mv (.tmp 53), none, []⟩])
        (.seq
         (.reg [
           ⟨(some 55), .mv (.tmp 7), none, []⟩,
           ⟨(some 56), .callS 41 [(.tmp 55), (.val (.int .i64 1))], none, []⟩,
           ⟨(some 54), .mv (.tmp 56), none, []⟩,
           ⟨(some 57), .ext (.tmp 54) 0, none, []⟩,
           ⟨(some 58), .ext (.tmp 54) 1, none, []⟩,
           ⟨(some 59), .ext (.tmp 54) 2, none, []⟩,
           ⟨(some 15), .mv (.tmp 57), none, []⟩,
           ⟨(some 7), .mv (.tmp 58), none, []⟩,
           ⟨(some 16), .mv (.tmp 59), none, []⟩])
         (.seq
          (.seq
           (.reg [
             ⟨(some 60), .mv (.tmp 6), none, []⟩,
             ⟨(some 61), .bin .neq (.tmp 60) (.val (.int .i64 4)), none, []⟩])
           (.cond (.tmp 61)
            (.seq
             (.reg [
               ⟨(some 62), .bld [(.int .i64 0), (.int .i64 0), (.int .i64 0), (.int .i64 0)] [], none, []⟩,
               ⟨(some 63), .callS 42 [(.val (.slice .full 0 [])), (.val (.int .i64 4)), (.val (.int .i64 2))], none, []⟩,
               ⟨(some 64), .bld [(.int .i64 0), (.int .i64 0), (.slice .full 0 [])] [(0, 1, (.val (.int .i64 2))), (1, 1, (.val (.int .i64 1))), (2, 1, (.tmp 63))], none, []⟩,
               ⟨none, .st 4 (.tmp 4) (.tmp 62), none, []⟩,
               ⟨none, .st 3 (.tmp 5) (.tmp 64), none, []⟩])
             .ret)
            .skip))
          (.seq
           (.seq
            (.reg [
              ⟨(some 65), .mv (.tmp 15), none, []⟩,
              ⟨(some 66), .mv (.tmp 7), none, []⟩,
              ⟨(some 67), .len (.tmp 66), none, []⟩,
              ⟨(some 68), .bin .neq (.tmp 65) (.tmp 67), none, []⟩])
            (.cond (.tmp 68)
             (.seq
              (.reg [
                ⟨(some 69), .bld [(.int .i64 0), (.int .i64 0), (.int .i64 0), (.int .i64 0)] [], none, []⟩,
                ⟨(some 70), .bld [(.int .i64 0), (.int .i64 0), (.slice .full 0 [])] [(0, 1, (.val (.int .i64 2))), (1, 1, (.val (.int .i64 0)))], none, []⟩,
                ⟨none, .st 4 (.tmp 4) (.tmp 69), none, []⟩,
                ⟨none, .st 3 (.tmp 5) (.tmp 70), none, []⟩])
              .ret)
             .skip))
           (.seq
            (.reg [
              ⟨(some 72), .mv (.tmp 7), none, []⟩,
              ⟨(some 73), .callS 43 [(.tmp 72)], none, []⟩,
              ⟨(some 71), .mv (.tmp 73), none, []⟩,
              ⟨(some 74), .ext (.tmp 71) 0, none, []⟩,
              ⟨(some 75), .ext (.tmp 71) 1, none, []⟩,
              ⟨(some 17), .box 68 2 (.val (.agg [(.int .i64 0), (.int .i64 0)])), none, []⟩,
              ⟨(some 18), .box 29 3 (.val (.agg [(.int .i64 0), (.int .i64 0), (.slice .full 0 [])])), none, []⟩,
              ⟨none, .st 2 (.tmp 17) (.tmp 74), none, []⟩,
              ⟨none, .st 3 (.tmp 18) (.tmp 75), none, []⟩])
            (.seq
             (.seq
              (.reg [
                ⟨(some 76), .off 0 (.tmp 18), none, []⟩,
                ⟨(some 77), .ld none (.tmp 76), none, []⟩,
                ⟨(some 78), .bin .eql (.tmp 77) (.val (.int .i64 0)), none, []⟩])
              (.cond (.tmp 78)
               (.reg [
                 ⟨(some 79), .ld (some 2) (.tmp 17), none, []⟩,
                 ⟨(some 80), .mv (.tmp 1), none, []⟩,
                 ⟨(some 81), .mv (.tmp 9), none, []⟩,
                 ⟨(some 82), .mv (.tmp 11), none, []⟩,
                 ⟨(some 83), .mv (.tmp 13), none, []⟩,
                 ⟨(some 84), .callS 44 [(.tmp 79), (.tmp 80), (.tmp 81), (.tmp 82), (.tmp 83)], none, []⟩,
                 ⟨none, .st 3 (.tmp 18) (.tmp 84), none, []⟩])
               .skip))
             (.seq
              (.seq
               (.reg [
                 ⟨(some 85), .off 0 (.tmp 18), none, []⟩,
                 ⟨(some 86), .ld none (.tmp 85), none, []⟩,
                 ⟨(some 87), .bin .neq (.tmp 86) (.val (.int .i64 0)), none, []⟩])
               (.cond (.tmp 87)
                (.seq
                 (.reg [
                   ⟨(some 88), .bld [(.int .i64 0), (.int .i64 0), (.int .i64 0), (.int .i64 0)] [], none, []⟩,
                   ⟨(some 89), .ld (some 3) (.tmp 18), none, []⟩,
                   ⟨none, .st 4 (.tmp 4) (.tmp 88), none, [((some 3), (.tmp 18), 89)]⟩,
                   ⟨none, .st 3 (.tmp 5) (.tmp 89), none, []⟩])
                 .ret)
                .skip))
              (.seq
               (.reg [
                 ⟨(some 90), .off 0 (.tmp 17), none, []⟩,
                 ⟨(some 91), .ld none (.tmp 90), none, []⟩,
                 ⟨(some 92), .mv (.tmp 11), none, []⟩,
                 ⟨(some 93), .mv (.tmp 13), none, []⟩,
                 ⟨(some 94), .off 1 (.tmp 17), none, []⟩,
                 ⟨(some 95), .ld none (.tmp 94), none, []⟩,
                 ⟨(some 96), .bld [(.int .i64 0), (.int .i64 0), (.int .i64 0), (.int .i64 0)] [(0, 1, (.tmp 91)), (1, 1, (.tmp 92)), (2, 1, (.tmp 93)), (3, 1, (.tmp 95))], none, []⟩,
                 ⟨(some 97), .bld [(.int .i64 0), (.int .i64 0), (.slice .full 0 [])] [], none, []⟩,
                 ⟨none, .st 4 (.tmp 4) (.tmp 96), none, []⟩,
                 ⟨none, .st 3 (.tmp 5) (.tmp 97), none, []⟩])
               .ret)))))))))))))
def c_open_Get : AF := ⟨b_open_Get, 98, [.cell 4 (some 4), .cell 5 (some 3)]⟩
theorem p_open_Get : prepFunc Try.prog 16 = some c_open_Get ∧ hasBody Try.prog 16 = true := ⟨by kernel_rfl, by kernel_rfl⟩
def b_open_Sane : AC :=
  (.seq
   (.reg [
     ⟨(some 1), .box 23 4 (.tmp 0), none, []⟩,
     ⟨(some 2), .mv (.val (.bool false)), none, []⟩])
   (.seq
    (.reg [
      ⟨(some 3), .off 0 (.tmp 1), none, []⟩,
      ⟨(some 4), .ld none (.tmp 3), none, []⟩,
      ⟨(some 5), .callS 50 [(.tmp 4)], none, []⟩,
      ⟨(some 6), .mv (.tmp 5), none, []⟩,
      ⟨(some 7), .off 2 (.tmp 1), some (6, true), []⟩,
      ⟨(some 8), .ld none (.tmp 7), some (6, true), []⟩,
      ⟨(some 9), .callS 50 [(.tmp 8)], some (6, true), []⟩,
      ⟨(some 10), .pick (.tmp 6) (.tmp 9) (.val (.bool false)), none, []⟩,
      ⟨(some 11), .mv (.tmp 10), none, []⟩,
      ⟨(some 12), .off 1 (.tmp 1), some (11, true), []⟩,
      ⟨(some 13), .ld none (.tmp 12), some (11, true), []⟩,
      ⟨(some 14), .callS 51 [(.tmp 13)], some (11, true), []⟩,
      ⟨(some 15), .pick (.tmp 11) (.tmp 14) (.val (.bool false)), none, []⟩,
      ⟨(some 16), .mv (.tmp 15), none, []⟩,
      ⟨(some 17), .off 3 (.tmp 1), some (16, true), []⟩,
      ⟨(some 18), .ld none (.tmp 17), some (16, true), []⟩,
      ⟨(some 19), .bin .geq (.tmp 18) (.val (.int .i64 (-1))), some (16, true), []⟩,
      ⟨(some 20), .pick (.tmp 16) (.tmp 19) (.val (.bool false)), none, []⟩,
      ⟨(some 21), .mv (.tmp 20), none, []⟩,
      ⟨(some 22), .off 3 (.tmp 1), some (21, true), []⟩,
      ⟨(some 23), .ld none (.tmp 22), some (21, true), []⟩,
      ⟨(some 24), .bin .leq (.tmp 23) (.val (.int .i64 4)), some (21, true), []⟩,
      ⟨(some 25), .pick (.tmp 21) (.tmp 24) (.val (.bool false)), none, []⟩,
      ⟨(some 2), .mv (.tmp 25), none, []⟩])
    .ret))
def c_open_Sane : AF := ⟨b_open_Sane, 26, [.tmp 2]⟩
theorem p_open_Sane : prepFunc Try.prog 19 = some c_open_Sane ∧ hasBody Try.prog 19 = true := ⟨by kernel_rfl, by kernel_rfl⟩
def b_open_Put : AC :=
  (.seq
   (.reg [
     ⟨(some 1), .box 23 4 (.tmp 0), none, []⟩,
     ⟨(some 2), .box 26 2 (.val (.agg [(.int .i64 0), (.slice .full 0 [])])), none, []⟩])
   (.seq
    (.seq
     (.reg [
       ⟨(some 5), .ld (some 4) (.tmp 1), none, []⟩,
       ⟨(some 6), .callS 19 [(.tmp 5)], none, []⟩,
       ⟨(some 7), .un .not (.tmp 6), none, []⟩])
     (.cond (.tmp 7)
      (.seq
       (.reg [
         ⟨(some 8), .bld [(.int .i64 0), (.slice .full 0 [])] [], none, []⟩,
         ⟨none, .st 2 (.tmp 2) (.tmp 8), none, []⟩])
       .ret)
      .skip))
    (.seq
     (.reg [
       ⟨(some 9), .off 0 (.tmp 1), none, []⟩,
       ⟨(some 10), .ld none (.tmp 9), none, []⟩,
       ⟨(some 11), .callS 42 [(.val (.slice .full 0 [])), (.tmp 10), (.val (.int .i64 4))], none, []⟩,
       ⟨(some 12), .callS 52 [(.val (.int .i64 65)), (.tmp 11)], none, []⟩,
       ⟨(some 13), .callS 52 [(.val (.int .i64 2)), (.tmp 12)], none, []⟩,
       ⟨(some 3), .mv (.tmp 13), none, []⟩])
     (.seq
      (.seq
       (.reg [
         ⟨(some 14), .off 3 (.tmp 1), none, []⟩,
         ⟨(some 15), .ld none (.tmp 14), none, []⟩,
         ⟨(some 16), .bin .neq (.tmp 15) (.val (.int .i64 (-1))), none, []⟩])
       (.cond (.tmp 16)
        (.reg [
          ⟨(some 17), .mv (.tmp 3), none, []⟩,
          ⟨(some 18), .off 3 (.tmp 1), none, []⟩,
          ⟨(some 19), .ld none (.tmp 18), none, []⟩,
          ⟨(some 20), .callS 42 [(.val (.slice .full 0 [])), (.tmp 19), (.val (.int .i64 1))], none, []⟩,
          ⟨(some 21), .callS 52 [(.val (.int .i64 9)), (.tmp 20)], none, []⟩,
          ⟨(some 22), .callS 52 [(.val (.int .i64 2)), (.tmp 21)], none, []⟩,
          ⟨(some 23), .app 5 1 1 (.tmp 17) (.tmp 22), none, []⟩,
          ⟨(some 3), .mv (.tmp 23), none, []⟩])
        .skip))
      (.seq
       (.reg [
         ⟨(some 24), .callS 42 [(.val (.slice .full 0 [])), (.val (.int .i64 4)), (.val (.int .i64 1))], none, []⟩,
         ⟨(some 4), .mv (.tmp 24), none, []⟩])
       (.seq
        (.reg [
          ⟨(some 25), .mv (.tmp 4), none, []⟩,
          ⟨(some 26), .off 0 (.tmp 1), none, []⟩,
          ⟨(some 27), .ld none (.tmp 26), none, []⟩,
          ⟨(some 28), .callS 53 [(.tmp 27)], none, []⟩,
          ⟨(some 29), .callS 42 [(.tmp 25), (.tmp 28), (.val (.int .i64 2))], none, []⟩,
          ⟨(some 4), .mv (.tmp 29), none, []⟩])
        (.seq
         (.reg [
           ⟨(some 30), .mv (.tmp 4), none, []⟩,
           ⟨(some 31), .off 1 (.tmp 1), none, []⟩,
           ⟨(some 32), .ld none (.tmp 31), none, []⟩,
           ⟨(some 33), .callS 42 [(.tmp 30), (.tmp 32), (.val (.int .i64 2))], none, []⟩,
           ⟨(some 4), .mv (.tmp 33), none, []⟩])
         (.seq
          (.reg [
            ⟨(some 34), .mv (.tmp 4), none, []⟩,
            ⟨(some 35), .off 2 (.tmp 1), none, []⟩,
            ⟨(some 36), .ld none (.tmp 35), none, []⟩,
            ⟨(some 37), .callS 42 [(.tmp 34), (.tmp 36), (.val (.int .i64 4))], none, []⟩,
            ⟨(some 4), .mv (.tmp 37), none, []⟩])
          (.seq
           (.reg [
             ⟨(some 38), .mv (.tmp 4), none, []⟩,
             ⟨(some 39), .mv (.tmp 3), none, []⟩,
             ⟨(some 40), .len (.tmp 39), none, []⟩,
             ⟨(some 41), .callS 42 [(.tmp 38), (.tmp 40), (.val (.int .i64 1))], none, []⟩,
             ⟨(some 4), .mv (.tmp 41), none, []⟩])
           (.seq
            (.reg [
              ⟨(some 42), .mv (.tmp 4), none, []⟩,
              ⟨(some 43), .mv (.tmp 3), none, []⟩,
              ⟨(some 44), .app 5 1 1 (.tmp 42) (.tmp 43), none, []⟩,
              ⟨(some 45), .bld [(.int .i64 0), (.slice .full 0 [])] [(0, 1, (.val (.int .i64 1))), (1, 1, (.tmp 44))], none, []⟩,
              ⟨none, .st 2 (.tmp 2) (.tmp 45), none, []⟩])
            .ret))))))))))
def c_open_Put : AF := ⟨b_open_Put, 46, [.cell 2 (some 2)]⟩
theorem p_open_Put : prepFunc Try.prog 22 = some c_open_Put ∧ hasBody Try.prog 22 = true := ⟨by kernel_rfl, by kernel_rfl⟩
def b_msg_Sane : AC :=
  (.seq
   (.reg [
     ⟨(some 1), .box 26 2 (.tmp 0), none, []⟩,
     ⟨(some 2), .mv (.val (.bool false)), none, []⟩])
   (.seq
    (.reg [
      ⟨(some 3), .off 0 (.tmp 1), none, []⟩,
      ⟨(some 4), .ld none (.tmp 3), none, []⟩,
      ⟨(some 5), .callS 55 [(.tmp 4)], none, []⟩,
      ⟨(some 6), .bin .gtr (.tmp 5) (.val (.int .i64 0)), none, []⟩,
      ⟨(some 7), .mv (.tmp 6), none, []⟩,
      ⟨(some 8), .off 0 (.tmp 1), some (7, true), []⟩,
      ⟨(some 9), .ld none (.tmp 8), some (7, true), []⟩,
      ⟨(some 10), .off 1 (.tmp 1), some (7, true), []⟩,
      ⟨(some 11), .ld none (.tmp 10), some (7, true), []⟩,
      ⟨(some 12), .len (.tmp 11), some (7, true), []⟩,
      ⟨(some 13), .bin .add (.val (.int .i64 19)) (.tmp 12), some (7, true), []⟩,
      ⟨(some 14), .callS 56 [(.tmp 9), (.tmp 13)], some (7, true), []⟩,
      ⟨(some 15), .un .not (.tmp 14), some (7, true), []⟩,
      ⟨(some 16), .pick (.tmp 7) (.tmp 15) (.val (.bool false)), none, []⟩,
      ⟨(some 17), .mv (.tmp 16), none, []⟩,
      ⟨(some 18), .off 1 (.tmp 1), some (17, true), []⟩,
      ⟨(some 19), .ld none (.tmp 18), some (17, true), []⟩,
      ⟨(some 20), .len (.tmp 19), some (17, true), []⟩,
      ⟨(some 21), .bin .add (.val (.int .i64 19)) (.tmp 20), some (17, true), []⟩,
      ⟨(some 22), .bin .leq (.tmp 21) (.val (.int .i64 4096)), some (17, true), []⟩,
      ⟨(some 23), .pick (.tmp 17) (.tmp 22) (.val (.bool false)), none, []⟩,
      ⟨(some 2), .mv (.tmp 23), none, []⟩])
    .ret))
def c_msg_Sane : AF := ⟨b_msg_Sane, 24, [.tmp 2]⟩
theorem p_msg_Sane : prepFunc Try.prog 24 = some c_msg_Sane ∧ hasBody Try.prog 24 = true := ⟨by kernel_rfl, by kernel_rfl⟩
def b_octet_Get : AC :=
  (.seq
   (.reg [
     ⟨(some 4), .mv (.val (.int .i64 0)), none, []⟩,
     ⟨(some 5), .mv (.val (.slice .full 0 [])), none, []⟩,
     ⟨(some 6), .mv (.val (.bool false)), none, []⟩])
   (.seq
    (.seq
     (.reg [
       ⟨(some 13), .mv (.tmp 1), none, []⟩,
       ⟨(some 14), .bin .lss (.tmp 13) (.val (.int .i64 1)), none, []⟩,
       ⟨(some 15), .mv (.tmp 14), none, []⟩,
       ⟨(some 16), .mv (.tmp 1), some (15, false), []⟩,
       ⟨(some 17), .bin .gtr (.tmp 16) (.val (.int .i64 4)), some (15, false), []⟩,
       ⟨(some 18), .pick (.tmp 15) (.val (.bool true)) (.tmp 17), none, []⟩])
     (.cond (.tmp 18)
      (.seq
       (.reg [
         ⟨(some 4), .mv (.val (.int .i64 0)), none, []⟩,
         ⟨(some 5), .mv (.val (.slice .full 0 [])), none, []⟩,
         ⟨(some 6), .mv (.val (.bool false)), none, []⟩])
       .ret)
      .skip))
    (.seq
     (.reg [
       ⟨(some 20), .mv (.tmp 0), none, []⟩,
       ⟨(some 21), .mv (.tmp 1), none, []⟩,
       ⟨(some 22), .callS 57 [(.tmp 20), (.tmp 21)], none, []⟩,
       ⟨(some 19), .mv (.tmp 22), none, []⟩,
       ⟨(some 23), .ext (.tmp 19) 0, none, []⟩,
       ⟨(some 24), .ext (.tmp 19) 1, none, []⟩,
       ⟨(some 25), .ext (.tmp 19) 2, none, []⟩,
       ⟨(some 7), .mv (.tmp 23), none, []⟩,
       ⟨(some 8), .mv (.tmp 24), none, []⟩,
       ⟨(some 9), .mv (.tmp 25), none, []⟩])
     (.seq
      (.reg [
        ⟨(some 10), .mv (.val (.int .i64 0)), none, []⟩])
      (.seq
       (.seq
        (.reg [
          ⟨(some 26), .mv (.tmp 7), none, []⟩,
          ⟨(some 27), .len (.tmp 26), none, []⟩,
          ⟨(some 28), .mv (.val (.int .i64 0)), none, []⟩])
        (.block 0
         (.loop
          (.seq
           (.reg [
             ⟨(some 29), .bin .lss (.tmp 28) (.tmp 27), none, []⟩])
           (.seq
            (.cond (.tmp 29)
             .skip
             (.exit 0))
            (.seq
             (.block 1
              (.seq
               (.reg [
                 ⟨(some 30), .idxA 1 (.tmp 26) (.tmp 28), none, []⟩,
                 ⟨(some 31), .ld none (.tmp 30), none, []⟩,
                 ⟨(some 12), .mv (.tmp 31), none, []⟩])
               (.reg [
                 ⟨(some 32), .mv (.tmp 10), none, []⟩,
                 ⟨(some 33), .bin .shl (.tmp 32) (.val (.int .u64 8)), none, []⟩,
                 ⟨(some 34), .mv (.tmp 12), none, []⟩,
                 ⟨(some 35), .conv .i64 (.tmp 34), none, []⟩,
                 ⟨(some 36), .bin .or (.tmp 33) (.tmp 35), none, []⟩,
                 ⟨(some 10), .mv (.tmp 36), none, []⟩])))
             (.reg [
               ⟨(some 37), .bin .add (.tmp 28) (.val (.int .i64 1)), none, []⟩,
               ⟨(some 28), .mv (.tmp 37), none, []⟩])))))))
       (.seq
        (.reg [
          ⟨(some 38), .mv (.tmp 10), none, []⟩,
          ⟨(some 39), .mv (.tmp 8), none, []⟩,
          ⟨(some 40), .mv (.tmp 9), none, []⟩,
          ⟨(some 4), .mv (.tmp 38), none, []⟩,
          ⟨(some 5), .mv (.tmp 39), none, []⟩,
          ⟨(some 6), .mv (.tmp 40), none, []⟩])
        .ret))))))
def c_octet_Get : AF := ⟨b_octet_Get, 41, [.tmp 4, .tmp 5, .tmp 6]⟩
theorem p_octet_Get : prepFunc Try.prog 41 = some c_octet_Get ∧ hasBody Try.prog 41 = true := ⟨by kernel_rfl, by kernel_rfl⟩
def b_octet_Put : AC :=
  (.seq
   (.reg [
     ⟨(some 6), .mv (.val (.slice .full 0 [])), none, []⟩])
   (.seq
    (.seq
     (.reg [
       ⟨(some 9), .mv (.tmp 2), none, []⟩,
       ⟨(some 10), .bin .lss (.tmp 9) (.val (.int .i64 1)), none, []⟩,
       ⟨(some 11), .mv (.tmp 10), none, []⟩,
       ⟨(some 12), .mv (.tmp 2), some (11, false), []⟩,
       ⟨(some 13), .bin .gtr (.tmp 12) (.val (.int .i64 4)), some (11, false), []⟩,
       ⟨(some 14), .pick (.tmp 11) (.val (.bool true)) (.tmp 13), none, []⟩])
     (.cond (.tmp 14)
      (.seq
       (.reg [
         ⟨(some 15), .mv (.tmp 0), none, []⟩,
         ⟨(some 6), .mv (.tmp 15), none, []⟩])
       .ret)
      .skip))
    (.seq
     (.reg [
       ⟨(some 16), .mv (.tmp 0), none, []⟩,
       ⟨(some 17), .mv (.tmp 0), none, []⟩,
       ⟨(some 18), .len (.tmp 17), none, []⟩,
       ⟨(some 19), .mv (.tmp 0), none, []⟩,
       ⟨(some 20), .len (.tmp 19), none, []⟩,
       ⟨(some 21), .slc 1 (.tmp 16) none (some (.tmp 18)) (some (.tmp 20)), none, []⟩,
       ⟨(some 7), .mv (.tmp 21), none, []⟩])
     (.seq
      (.seq
       (.reg [
         ⟨(some 22), .mv (.tmp 2), none, []⟩,
         ⟨(some 23), .mv (.val (.int .i64 0)), none, []⟩])
       (.block 0
        (.loop
         (.seq
          (.reg [
            ⟨(some 24), .bin .lss (.tmp 23) (.tmp 22), none, []⟩])
          (.seq
           (.cond (.tmp 24)
            .skip
            (.exit 0))
           (.seq
            (.block 1
             (.seq
              (.reg [
                ⟨(some 25), .mv (.tmp 23), none, []⟩,
                ⟨(some 8), .mv (.tmp 25), none, []⟩])
              (.reg [
                ⟨(some 26), .mv (.tmp 7), none, []⟩,
                ⟨(some 27), .mv (.tmp 1), none, []⟩,
                ⟨(some 28), .mv (.tmp 2), none, []⟩,
                ⟨(some 29), .bin .sub (.tmp 28) (.val (.int .i64 1)), none, []⟩,
                ⟨(some 30), .mv (.tmp 8), none, []⟩,
                ⟨(some 31), .bin .sub (.tmp 29) (.tmp 30), none, []⟩,
                ⟨(some 32), .bin .mul (.val (.int .i64 8)) (.tmp 31), none, []⟩,
                ⟨(some 33), .bin .shr (.tmp 27) (.tmp 32), none, []⟩,
                ⟨(some 34), .conv .u8 (.tmp 33), none, []⟩,
                ⟨(some 35), .lit 5 1 [0] [(.tmp 34)], none, []⟩,
                ⟨(some 36), .app 5 1 1 (.tmp 26) (.tmp 35), none, []⟩,
                ⟨(some 7), .mv (.tmp 36), none, []⟩])))
            (.reg [
              ⟨(some 37), .bin .add (.tmp 23) (.val (.int .i64 1)), none, []⟩,
              ⟨(some 23), .mv (.tmp 37), none, []⟩])))))))
      (.seq
       (.reg [
         ⟨(some 38), .mv (.tmp 7), none, []⟩,
         ⟨(some 6), .mv (.tmp 38), none, []⟩])
       .ret)))))
def c_octet_Put : AF := ⟨b_octet_Put, 39, [.tmp 6]⟩
theorem p_octet_Put : prepFunc Try.prog 42 = some c_octet_Put ∧ hasBody Try.prog 42 = true := ⟨by kernel_rfl, by kernel_rfl⟩
def b_open_read : AC :=
  (.seq
   (.reg [
     ⟨(some 2), .box 68 2 (.val (.agg [(.int .i64 0), (.int .i64 0)])), none, []⟩,
     ⟨(some 3), .box 29 3 (.val (.agg [(.int .i64 0), (.int .i64 0), (.slice .full 0 [])])), none, []⟩])
   (.seq
    (.reg [
      ⟨(some 6), .bld [(.int .i64 0), (.int .i64 0)] [(0, 1, (.val (.int .i64 (-1)))), (1, 1, (.val (.int .i64 (-1))))], none, []⟩,
      ⟨(some 4), .box 68 2 (.val (.agg [(.int .i64 0), (.int .i64 0)])), none, []⟩,
      ⟨none, .st 2 (.tmp 4) (.tmp 6), none, []⟩])
    (.seq
     (.reg [
       ⟨(some 7), .mv (.tmp 0), none, []⟩,
       ⟨(some 8), .mkclo 66 [(.tmp 4)], none, []⟩,
       ⟨(some 9), .callS 65 [(.tmp 7), (.tmp 8)], none, []⟩,
       ⟨(some 5), .box 29 3 (.val (.agg [(.int .i64 0), (.int .i64 0), (.slice .full 0 [])])), none, []⟩,
       ⟨none, .st 3 (.tmp 5) (.tmp 9), none, []⟩])
     (.seq
      (.reg [
        ⟨(some 10), .ld (some 2) (.tmp 4), none, []⟩,
        ⟨(some 11), .ld (some 3) (.tmp 5), none, []⟩,
        ⟨none, .st 2 (.tmp 2) (.tmp 10), none, [((some 3), (.tmp 5), 11)]⟩,
        ⟨none, .st 3 (.tmp 3) (.tmp 11), none, []⟩])
      .ret))))
def c_open_read : AF := ⟨b_open_read, 12, [.cell 2 (some 2), .cell 3 (some 3)]⟩
theorem p_open_read : prepFunc Try.prog 43 = some c_open_read ∧ hasBody Try.prog 43 = true := ⟨by kernel_rfl, by kernel_rfl⟩
def b_open_fault : AC :=
  (.seq
   (.reg [
     ⟨(some 5), .box 68 2 (.tmp 0), none, []⟩,
     ⟨(some 10), .box 29 3 (.val (.agg [(.int .i64 0), (.int .i64 0), (.slice .full 0 [])])), none, []⟩])
   (.seq
    (.block 0
     (.seq
      (.reg [
        ⟨(some 12), .off 0 (.tmp 5), none, []⟩,
        ⟨(some 13), .ld none (.tmp 12), none, []⟩,
        ⟨(some 14), .bin .lss (.tmp 13) (.val (.int .i64 0)), none, []⟩,
        ⟨(some 11), .mv (.tmp 14), none, []⟩])
      (.cond (.tmp 11)
       (.seq
        (.reg [
          ⟨(some 15), .lit 5 1 [0] [(.val (.int .u8 65)), (.val (.int .u8 0))], none, []⟩,
          ⟨(some 16), .bld [(.int .i64 0), (.int .i64 0), (.slice .full 0 [])] [(0, 1, (.val (.int .i64 2))), (1, 1, (.val (.int .i64 7))), (2, 1, (.tmp 15))], none, []⟩,
          ⟨none, .st 3 (.tmp 10) (.tmp 16), none, []⟩])
        .ret)
       (.seq
        (.reg [
          ⟨(some 18), .off 0 (.tmp 5), none, []⟩,
          ⟨(some 19), .ld none (.tmp 18), none, []⟩,
          ⟨(some 20), .bin .eql (.tmp 19) (.val (.int .i64 0)), none, []⟩,
          ⟨(some 21), .mv (.tmp 20), none, []⟩,
          ⟨(some 22), .off 0 (.tmp 5), some (21, false), []⟩,
          ⟨(some 23), .ld none (.tmp 22), some (21, false), []⟩,
          ⟨(some 24), .mv (.tmp 1), some (21, false), []⟩,
          ⟨(some 25), .bin .neq (.tmp 23) (.tmp 24), some (21, false), []⟩,
          ⟨(some 26), .pick (.tmp 21) (.val (.bool true)) (.tmp 25), none, []⟩,
          ⟨(some 27), .mv (.tmp 26), none, []⟩,
          ⟨(some 28), .mv (.tmp 2), some (27, false), []⟩,
          ⟨(some 29), .off 0 (.tmp 5), some (27, false), []⟩,
          ⟨(some 30), .ld none (.tmp 29), some (27, false), []⟩,
          ⟨(some 31), .callS 53 [(.tmp 30)], some (27, false), []⟩,
          ⟨(some 32), .bin .neq (.tmp 28) (.tmp 31), some (27, false), []⟩,
          ⟨(some 33), .pick (.tmp 27) (.val (.bool true)) (.tmp 32), none, []⟩,
          ⟨(some 17), .mv (.tmp 33), none, []⟩])
        (.cond (.tmp 17)
         (.seq
          (.reg [
            ⟨(some 34), .bld [(.int .i64 0), (.int .i64 0), (.slice .full 0 [])] [(0, 1, (.val (.int .i64 2))), (1, 1, (.val (.int .i64 2)))], none, []⟩,
            ⟨none, .st 3 (.tmp 10) (.tmp 34), none, []⟩])
          .ret)
         (.seq
          (.reg [
            ⟨(some 36), .mv (.tmp 3), none, []⟩,
            ⟨(some 37), .callS 51 [(.tmp 36)], none, []⟩,
            ⟨(some 38), .un .not (.tmp 37), none, []⟩,
            ⟨(some 35), .mv (.tmp 38), none, []⟩])
          (.cond (.tmp 35)
           (.seq
            (.reg [
              ⟨(some 39), .bld [(.int .i64 0), (.int .i64 0), (.slice .full 0 [])] [(0, 1, (.val (.int .i64 2))), (1, 1, (.val (.int .i64 6)))], none, []⟩,
              ⟨none, .st 3 (.tmp 10) (.tmp 39), none, []⟩])
            .ret)
           (.seq
            (.reg [
              ⟨(some 41), .mv (.tmp 4), none, []⟩,
              ⟨(some 42), .bin .eql (.tmp 41) (.val (.int .i64 0)), none, []⟩,
              ⟨(some 40), .mv (.tmp 42), none, []⟩])
            (.cond (.tmp 40)
             (.seq
              (.reg [
                ⟨(some 43), .bld [(.int .i64 0), (.int .i64 0), (.slice .full 0 [])] [(0, 1, (.val (.int .i64 2))), (1, 1, (.val (.int .i64 3)))], none, []⟩,
                ⟨none, .st 3 (.tmp 10) (.tmp 43), none, []⟩])
              .ret)
             .skip)))))))))
    (.seq
     (.reg [
       ⟨(some 44), .bld [(.int .i64 0), (.int .i64 0), (.slice .full 0 [])] [], none, []⟩,
       ⟨none, .st 3 (.tmp 10) (.tmp 44), none, []⟩])
     .ret)))
def c_open_fault : AF := ⟨b_open_fault, 45, [.cell 10 (some 3)]⟩
theorem p_open_fault : prepFunc Try.prog 44 = some c_open_fault ∧ hasBody Try.prog 44 = true := ⟨by kernel_rfl, by kernel_rfl⟩
def b_open_number : AC :=
  (.seq
   (.reg [
     ⟨(some 2), .mv (.val (.bool false)), none, []⟩])
   (.seq
    (.reg [
      ⟨(some 3), .mv (.tmp 0), none, []⟩,
      ⟨(some 4), .bin .geq (.tmp 3) (.val (.int .i64 1)), none, []⟩,
      ⟨(some 5), .mv (.tmp 4), none, []⟩,
      ⟨(some 6), .mv (.tmp 0), some (5, true), []⟩,
      ⟨(some 7), .bin .leq (.tmp 6) (.val (.int .i64 4294967295)), some (5, true), []⟩,
      ⟨(some 8), .pick (.tmp 5) (.tmp 7) (.val (.bool false)), none, []⟩,
      ⟨(some 2), .mv (.tmp 8), none, []⟩])
    .ret))
def c_open_number : AF := ⟨b_open_number, 9, [.tmp 2]⟩
theorem p_open_number : prepFunc Try.prog 50 = some c_open_number ∧ hasBody Try.prog 50 = true := ⟨by kernel_rfl, by kernel_rfl⟩
def b_open_holds : AC :=
  (.seq
   (.reg [
     ⟨(some 2), .mv (.val (.bool false)), none, []⟩])
   (.seq
    (.reg [
      ⟨(some 3), .mv (.tmp 0), none, []⟩,
      ⟨(some 4), .bin .eql (.tmp 3) (.val (.int .i64 0)), none, []⟩,
      ⟨(some 5), .mv (.tmp 4), none, []⟩,
      ⟨(some 6), .mv (.tmp 0), some (5, false), []⟩,
      ⟨(some 7), .bin .geq (.tmp 6) (.val (.int .i64 3)), some (5, false), []⟩,
      ⟨(some 8), .mv (.tmp 7), some (5, false), []⟩,
      ⟨(some 9), .mv (.tmp 0), some (8, true), []⟩,
      ⟨(some 10), .bin .leq (.tmp 9) (.val (.int .i64 65535)), some (8, true), []⟩,
      ⟨(some 11), .pick (.tmp 8) (.tmp 10) (.val (.bool false)), some (5, false), []⟩,
      ⟨(some 12), .pick (.tmp 5) (.val (.bool true)) (.tmp 11), none, []⟩,
      ⟨(some 2), .mv (.tmp 12), none, []⟩])
    .ret))
def c_open_holds : AF := ⟨b_open_holds, 13, [.tmp 2]⟩
theorem p_open_holds : prepFunc Try.prog 51 = some c_open_holds ∧ hasBody Try.prog 51 = true := ⟨by kernel_rfl, by kernel_rfl⟩
def b_open_labelled : AC :=
  (.seq
   (.reg [
     ⟨(some 4), .mv (.val (.slice .full 0 [])), none, []⟩])
   (.seq
    (.reg [
      ⟨(some 5), .mv (.tmp 0), none, []⟩,
      ⟨(some 6), .conv .u8 (.tmp 5), none, []⟩,
      ⟨(some 7), .mv (.tmp 1), none, []⟩,
      ⟨(some 8), .len (.tmp 7), none, []⟩,
      ⟨(some 9), .conv .u8 (.tmp 8), none, []⟩,
      ⟨(some 10), .lit 5 1 [0] [(.tmp 6), (.tmp 9)], none, []⟩,
      ⟨(some 11), .mv (.tmp 1), none, []⟩,
      ⟨(some 12), .app 5 1 1 (.tmp 10) (.tmp 11), none, []⟩,
      ⟨(some 4), .mv (.tmp 12), none, []⟩])
    .ret))
def c_open_labelled : AF := ⟨b_open_labelled, 13, [.tmp 4]⟩
theorem p_open_labelled : prepFunc Try.prog 52 = some c_open_labelled ∧ hasBody Try.prog 52 = true := ⟨by kernel_rfl, by kernel_rfl⟩
def b_open_short : AC :=
  (.seq
   (.reg [
     ⟨(some 2), .mv (.val (.int .i64 0)), none, []⟩])
   (.seq
    (.seq
     (.reg [
       ⟨(some 3), .mv (.tmp 0), none, []⟩,
       ⟨(some 4), .bin .gtr (.tmp 3) (.val (.int .i64 65535)), none, []⟩])
     (.cond (.tmp 4)
      (.seq
       (.reg [
         ⟨(some 2), .mv (.val (.int .i64 23456)), none, []⟩])
       .ret)
      .skip))
    (.seq
     (.reg [
       ⟨(some 5), .mv (.tmp 0), none, []⟩,
       ⟨(some 2), .mv (.tmp 5), none, []⟩])
     .ret)))
def c_open_short : AF := ⟨b_open_short, 6, [.tmp 2]⟩
theorem p_open_short : prepFunc Try.prog 53 = some c_open_short ∧ hasBody Try.prog 53 = true := ⟨by kernel_rfl, by kernel_rfl⟩
def b_msg_Least : AC :=
  (.seq
   (.reg [
     ⟨(some 2), .mv (.val (.int .i64 0)), none, []⟩])
   (.seq
    (.reg [
      ⟨(some 3), .mv (.val (.int .i64 0)), none, []⟩])
    (.seq
     (.seq
      (.reg [
        ⟨(some 4), .mv (.tmp 0), none, []⟩])
      (.block 0
       (.seq
        (.block 4
         (.seq
          (.block 3
           (.seq
            (.block 2
             (.seq
              (.block 1
               (.seq
                (.seq
                 (.seq
                  (.reg [
                    ⟨(some 6), .bin .eql (.tmp 4) (.val (.int .i64 1)), none, []⟩,
                    ⟨(some 5), .mv (.tmp 6), none, []⟩])
                  (.cond (.tmp 5)
                   (.exit 1)
                   .skip))
                 (.seq
                  (.seq
                   (.reg [
                     ⟨(some 8), .bin .eql (.tmp 4) (.val (.int .i64 2)), none, []⟩,
                     ⟨(some 7), .mv (.tmp 8), none, []⟩])
                   (.cond (.tmp 7)
                    (.exit 2)
                    .skip))
                  (.seq
                   (.seq
                    (.reg [
                      ⟨(some 10), .bin .eql (.tmp 4) (.val (.int .i64 3)), none, []⟩,
                      ⟨(some 9), .mv (.tmp 10), none, []⟩])
                    (.cond (.tmp 9)
                     (.exit 3)
                     .skip))
                   (.seq
                    (.reg [
                      ⟨(some 12), .bin .eql (.tmp 4) (.val (.int .i64 4)), none, []⟩,
                      ⟨(some 11), .mv (.tmp 12), none, []⟩])
                    (.cond (.tmp 11)
                     (.exit 4)
                     .skip)))))
                (.exit 0)))
              (.reg [
                ⟨(some 13), .mv (.tmp 3), none, []⟩,
                ⟨(some 14), .bin .add (.tmp 13) (.val (.int .i64 6)), none, []⟩,
                ⟨(some 3), .mv (.tmp 14), none, []⟩])))
            (.reg [
              ⟨(some 15), .mv (.tmp 3), none, []⟩,
              ⟨(some 16), .bin .add (.tmp 15) (.val (.int .i64 2)), none, []⟩,
              ⟨(some 3), .mv (.tmp 16), none, []⟩])))
          (.reg [
            ⟨(some 17), .mv (.tmp 3), none, []⟩,
            ⟨(some 18), .bin .add (.tmp 17) (.val (.int .i64 2)), none, []⟩,
            ⟨(some 3), .mv (.tmp 18), none, []⟩])))
        (.seq
         (.reg [
           ⟨(some 19), .mv (.tmp 3), none, []⟩,
           ⟨(some 20), .bin .add (.tmp 19) (.val (.int .i64 19)), none, []⟩,
           ⟨(some 3), .mv (.tmp 20), none, []⟩])
         (.exit 0)))))
     (.seq
      (.reg [
        ⟨(some 21), .mv (.tmp 3), none, []⟩,
        ⟨(some 2), .mv (.tmp 21), none, []⟩])
      .ret))))
def c_msg_Least : AF := ⟨b_msg_Least, 22, [.tmp 2]⟩
theorem p_msg_Least : prepFunc Try.prog 55 = some c_msg_Least ∧ hasBody Try.prog 55 = true := ⟨by kernel_rfl, by kernel_rfl⟩
def b_msg_wrong : AC :=
  (.seq
   (.reg [
     ⟨(some 4), .mv (.val (.bool false)), none, []⟩])
   (.seq
    (.reg [
      ⟨(some 5), .mv (.tmp 1), none, []⟩,
      ⟨(some 6), .mv (.tmp 0), none, []⟩,
      ⟨(some 7), .callS 55 [(.tmp 6)], none, []⟩,
      ⟨(some 8), .bin .lss (.tmp 5) (.tmp 7), none, []⟩,
      ⟨(some 9), .mv (.tmp 8), none, []⟩,
      ⟨(some 10), .mv (.tmp 0), some (9, false), []⟩,
      ⟨(some 11), .bin .eql (.tmp 10) (.val (.int .i64 4)), some (9, false), []⟩,
      ⟨(some 12), .mv (.tmp 11), some (9, false), []⟩,
      ⟨(some 13), .mv (.tmp 1), some (12, true), []⟩,
      ⟨(some 14), .bin .neq (.tmp 13) (.val (.int .i64 19)), some (12, true), []⟩,
      ⟨(some 15), .pick (.tmp 12) (.tmp 14) (.val (.bool false)), some (9, false), []⟩,
      ⟨(some 16), .pick (.tmp 9) (.val (.bool true)) (.tmp 15), none, []⟩,
      ⟨(some 4), .mv (.tmp 16), none, []⟩])
    .ret))
def c_msg_wrong : AF := ⟨b_msg_wrong, 17, [.tmp 4]⟩
theorem p_msg_wrong : prepFunc Try.prog 56 = some c_msg_wrong ∧ hasBody Try.prog 56 = true := ⟨by kernel_rfl, by kernel_rfl⟩
def b_octet_Take : AC :=
  (.seq
   (.reg [
     ⟨(some 4), .mv (.val (.slice .full 0 [])), none, []⟩,
     ⟨(some 5), .mv (.val (.slice .full 0 [])), none, []⟩,
     ⟨(some 6), .mv (.val (.bool false)), none, []⟩])
   (.seq
    (.seq
     (.reg [
       ⟨(some 7), .mv (.tmp 1), none, []⟩,
       ⟨(some 8), .bin .lss (.tmp 7) (.val (.int .i64 0)), none, []⟩,
       ⟨(some 9), .mv (.tmp 8), none, []⟩,
       ⟨(some 10), .mv (.tmp 1), some (9, false), []⟩,
       ⟨(some 11), .mv (.tmp 0), some (9, false), []⟩,
       ⟨(some 12), .len (.tmp 11), some (9, false), []⟩,
       ⟨(some 13), .bin .gtr (.tmp 10) (.tmp 12), some (9, false), []⟩,
       ⟨(some 14), .pick (.tmp 9) (.val (.bool true)) (.tmp 13), none, []⟩])
     (.cond (.tmp 14)
      (.seq
       (.reg [
         ⟨(some 4), .mv (.val (.slice .full 0 [])), none, []⟩,
         ⟨(some 5), .mv (.val (.slice .full 0 [])), none, []⟩,
         ⟨(some 6), .mv (.val (.bool false)), none, []⟩])
       .ret)
      .skip))
    (.seq
     (.reg [
       ⟨(some 15), .mv (.tmp 0), none, []⟩,
       ⟨(some 16), .mv (.tmp 1), none, []⟩,
       ⟨(some 17), .mv (.tmp 1), none, []⟩,
       ⟨(some 18), .slc 1 (.tmp 15) none (some (.tmp 16)) (some (.tmp 17)), none, []⟩,
       ⟨(some 19), .mv (.tmp 0), none, []⟩,
       ⟨(some 20), .mv (.tmp 1), none, []⟩,
       ⟨(some 21), .slc 1 (.tmp 19) (some (.tmp 20)) none none, none, []⟩,
       ⟨(some 4), .mv (.tmp 18), none, []⟩,
       ⟨(some 5), .mv (.tmp 21), none, []⟩,
       ⟨(some 6), .mv (.val (.bool true)), none, []⟩])
     .ret)))
def c_octet_Take : AF := ⟨b_octet_Take, 22, [.tmp 4, .tmp 5, .tmp 6]⟩
theorem p_octet_Take : prepFunc Try.prog 57 = some c_octet_Take ∧ hasBody Try.prog 57 = true := ⟨by kernel_rfl, by kernel_rfl⟩
def b_open_each : AC :=
  (.seq
   (.reg [
     ⟨(some 4), .box 29 3 (.val (.agg [(.int .i64 0), (.int .i64 0), (.slice .full 0 [])])), none, []⟩])
   (.seq
    (.block 0
     (.loop
      (.seq
       (.seq
        (.reg [
          ⟨(some 13), .mv (.tmp 0), none, []⟩,
          ⟨(some 14), .len (.tmp 13), none, []⟩,
          ⟨(some 15), .bin .gtr (.tmp 14) (.val (.int .i64 0)), none, []⟩])
        (.cond (.tmp 15)
         .skip
         (.exit 0)))
       (.block 1
        (.seq
         (.reg [
           ⟨(some 17), .mv (.tmp 0), none, []⟩,
           ⟨(some 18), .callS 41 [(.tmp 17), (.val (.int .i64 1))], none, []⟩,
           ⟨(some 16), .mv (.tmp 18), none, []⟩,
           ⟨(some 19), .ext (.tmp 16) 0, none, []⟩,
           ⟨(some 20), .ext (.tmp 16) 1, none, []⟩,
           ⟨(some 21), .ext (.tmp 16) 2, none, []⟩,
           ⟨(some 5), .mv (.tmp 19), none, []⟩,
           ⟨(some 6), .mv (.tmp 20), none, []⟩,
           ⟨(some 7), .mv (.tmp 21), none, []⟩])
         (.seq
          (.reg [
            ⟨(some 23), .mv (.tmp 6), none, []⟩,
            ⟨(some 24), .callS 41 [(.tmp 23), (.val (.int .i64 1))], none, []⟩,
            ⟨(some 22), .mv (.tmp 24), none, []⟩,
            ⟨(some 25), .ext (.tmp 22) 0, none, []⟩,
            ⟨(some 26), .ext (.tmp 22) 1, none, []⟩,
            ⟨(some 27), .ext (.tmp 22) 2, none, []⟩,
            ⟨(some 8), .mv (.tmp 25), none, []⟩,
            ⟨(some 6), .mv (.tmp 26), none, []⟩,
            ⟨(some 9), .mv (.tmp 27), none, []⟩])
          (.seq
           (.reg [
             ⟨(some 29), .mv (.tmp 6), none, []⟩,
             ⟨(some 30), .mv (.tmp 8), none, []⟩,
             ⟨(some 31), .callS 57 [(.tmp 29), (.tmp 30)], none, []⟩,
             ⟨(some 28), .mv (.tmp 31), none, []⟩,
             ⟨(some 32), .ext (.tmp 28) 0, none, []⟩,
             ⟨(some 33), .ext (.tmp 28) 1, none, []⟩,
             ⟨(some 34), .ext (.tmp 28) 2, none, []⟩,
             ⟨(some 10), .mv (.tmp 32), none, []⟩,
             ⟨(some 6), .mv (.tmp 33), none, []⟩,
             ⟨(some 11), .mv (.tmp 34), none, []⟩])
           (.seq
            (.seq
             (.reg [
               ⟨(some 35), .mv (.tmp 9), none, []⟩,
               ⟨(some 36), .un .not (.tmp 35), none, []⟩,
               ⟨(some 37), .mv (.tmp 36), none, []⟩,
               ⟨(some 38), .mv (.tmp 11), some (37, false), []⟩,
               ⟨(some 39), .un .not (.tmp 38), some (37, false), []⟩,
               ⟨(some 40), .pick (.tmp 37) (.val (.bool true)) (.tmp 39), none, []⟩])
             (.cond (.tmp 40)
              (.seq
               (.reg [
                 ⟨(some 41), .bld [(.int .i64 0), (.int .i64 0), (.slice .full 0 [])] [(0, 1, (.val (.int .i64 2))), (1, 1, (.val (.int .i64 0)))], none, []⟩,
                 ⟨none, .st 3 (.tmp 4) (.tmp 41), none, []⟩])
               .ret)
              .skip))
            (.seq
             (.seq
              (.reg [
                ⟨(some 42), .mv (.tmp 1), none, []⟩,
                ⟨(some 43), .mv (.tmp 5), none, []⟩,
                ⟨(some 44), .mv (.tmp 10), none, []⟩,
                ⟨(some 45), .callvS (.tmp 42) [(.tmp 43), (.tmp 44)], none, []⟩,
                ⟨(some 12), .box 29 3 (.val (.agg [(.int .i64 0), (.int .i64 0), (.slice .full 0 [])])), none, []⟩,
                ⟨none, .st 3 (.tmp 12) (.tmp 45), none, []⟩])
              (.seq
               (.reg [
                 ⟨(some 46), .off 0 (.tmp 12), none, []⟩,
                 ⟨(some 47), .ld none (.tmp 46), none, []⟩,
                 ⟨(some 48), .bin .neq (.tmp 47) (.val (.int .i64 0)), none, []⟩])
               (.cond (.tmp 48)
                (.seq
                 (.reg [
                   ⟨(some 49), .ld (some 3) (.tmp 12), none, []⟩,
                   ⟨none, .st 3 (.tmp 4) (.tmp 49), none, []⟩])
                 .ret)
                .skip)))
             (.reg [
               ⟨(some 50), .mv (.tmp 6), none, []⟩,
               ⟨(some 0), .mv (.tmp 50), none, []⟩]))))))))))
    (.seq
     (.reg [
       ⟨(some 51), .bld [(.int .i64 0), (.int .i64 0), (.slice .full 0 [])] [], none, []⟩,
       ⟨none, .st 3 (.tmp 4) (.tmp 51), none, []⟩])
     .ret)))
def c_open_each : AF := ⟨b_open_each, 52, [.cell 4 (some 3)]⟩
theorem p_open_each : prepFunc Try.prog 65 = some c_open_each ∧ hasBody Try.prog 65 = true := ⟨by kernel_rfl, by kernel_rfl⟩
def b_open_read_1 : AC :=
  (.seq
   (.reg [
     ⟨(some 5), .box 29 3 (.val (.agg [(.int .i64 0), (.int .i64 0), (.slice .full 0 [])])), none, []⟩])
   (.seq
    (.seq
     (.reg [
       ⟨(some 6), .mv (.tmp 0), none, []⟩,
       ⟨(some 7), .bin .neq (.tmp 6) (.val (.int .i64 2)), none, []⟩])
     (.cond (.tmp 7)
      (.seq
       (.reg [
         ⟨(some 8), .bld [(.int .i64 0), (.int .i64 0), (.slice .full 0 [])] [(0, 1, (.val (.int .i64 2))), (1, 1, (.val (.int .i64 4)))], none, []⟩,
         ⟨none, .st 3 (.tmp 5) (.tmp 8), none, []⟩])
       .ret)
      .skip))
    (.seq
     (.reg [
       ⟨(some 9), .mv (.tmp 1), none, []⟩,
       ⟨(some 10), .mkfn 67 [(.tmp 2)], none, []⟩,
       ⟨(some 11), .callS 65 [(.tmp 9), (.tmp 10)], none, []⟩,
       ⟨none, .st 3 (.tmp 5) (.tmp 11), none, []⟩])
     .ret)))
def c_open_read_1 : AF := ⟨b_open_read_1, 12, [.cell 5 (some 3)]⟩
theorem p_open_read_1 : prepFunc Try.prog 66 = some c_open_read_1 ∧ hasBody Try.prog 66 = true := ⟨by kernel_rfl, by kernel_rfl⟩
def b_open_said__take : AC :=
  (.seq
   (.reg [
     ⟨(some 6), .box 29 3 (.val (.agg [(.int .i64 0), (.int .i64 0), (.slice .full 0 [])])), none, []⟩])
   (.seq
    (.block 0
     (.seq
      (.seq
       (.reg [
         ⟨(some 8), .mv (.tmp 1), none, []⟩,
         ⟨(some 9), .bin .eql (.tmp 8) (.val (.int .i64 65)), none, []⟩,
         ⟨(some 10), .mv (.tmp 9), none, []⟩,
         ⟨(some 11), .mv (.tmp 2), some (10, true), []⟩,
         ⟨(some 12), .len (.tmp 11), some (10, true), []⟩,
         ⟨(some 13), .bin .neq (.tmp 12) (.val (.int .i64 4)), some (10, true), []⟩,
         ⟨(some 14), .pick (.tmp 10) (.tmp 13) (.val (.bool false)), none, []⟩,
         ⟨(some 7), .mv (.tmp 14), none, []⟩])
       (.cond (.tmp 7)
        .skip
        (.reg [
          ⟨(some 15), .mv (.tmp 1), none, []⟩,
          ⟨(some 16), .bin .eql (.tmp 15) (.val (.int .i64 9)), none, []⟩,
          ⟨(some 17), .mv (.tmp 16), none, []⟩,
          ⟨(some 18), .mv (.tmp 2), some (17, true), []⟩,
          ⟨(some 19), .len (.tmp 18), some (17, true), []⟩,
          ⟨(some 20), .bin .neq (.tmp 19) (.val (.int .i64 1)), some (17, true), []⟩,
          ⟨(some 21), .pick (.tmp 17) (.tmp 20) (.val (.bool false)), none, []⟩,
          ⟨(some 7), .mv (.tmp 21), none, []⟩])))
      (.cond (.tmp 7)
       (.seq
        (.reg [
          ⟨(some 22), .bld [(.int .i64 0), (.int .i64 0), (.slice .full 0 [])] [(0, 1, (.val (.int .i64 2))), (1, 1, (.val (.int .i64 0)))], none, []⟩,
          ⟨none, .st 3 (.tmp 6) (.tmp 22), none, []⟩])
        .ret)
       (.seq
        (.reg [
          ⟨(some 24), .mv (.tmp 1), none, []⟩,
          ⟨(some 25), .bin .eql (.tmp 24) (.val (.int .i64 65)), none, []⟩,
          ⟨(some 26), .mv (.tmp 25), none, []⟩,
          ⟨(some 27), .mv (.tmp 0), some (26, true), []⟩,
          ⟨(some 28), .nilc (.tmp 27), some (26, true), []⟩,
          ⟨(some 29), .off 0 (.tmp 28), some (26, true), []⟩,
          ⟨(some 30), .ld none (.tmp 29), some (26, true), []⟩,
          ⟨(some 31), .bin .lss (.tmp 30) (.val (.int .i64 0)), some (26, true), []⟩,
          ⟨(some 32), .pick (.tmp 26) (.tmp 31) (.val (.bool false)), none, []⟩,
          ⟨(some 23), .mv (.tmp 32), none, []⟩])
        (.cond (.tmp 23)
         (.reg [
           ⟨(some 34), .mv (.tmp 0), none, []⟩,
           ⟨(some 35), .mv (.tmp 2), none, []⟩,
           ⟨(some 36), .callS 41 [(.tmp 35), (.val (.int .i64 4))], none, []⟩,
           ⟨(some 33), .mv (.tmp 36), none, []⟩,
           ⟨(some 37), .ext (.tmp 33) 0, none, []⟩,
           ⟨(some 38), .ext (.tmp 33) 1, none, []⟩,
           ⟨(some 39), .ext (.tmp 33) 2, none, []⟩,
           ⟨(some 40), .nilc (.tmp 34), none, []⟩,
           ⟨(some 41), .off 0 (.tmp 40), none, []⟩,
           ⟨none, .st 1 (.tmp 41) (.tmp 37), none, []⟩])
         (.seq
          (.reg [
            ⟨(some 43), .mv (.tmp 1), none, []⟩,
            ⟨(some 44), .bin .eql (.tmp 43) (.val (.int .i64 9)), none, []⟩,
            ⟨(some 45), .mv (.tmp 44), none, []⟩,
            ⟨(some 46), .mv (.tmp 0), some (45, true), []⟩,
            ⟨(some 47), .nilc (.tmp 46), some (45, true), []⟩,
            ⟨(some 48), .off 1 (.tmp 47), some (45, true), []⟩,
            ⟨(some 49), .ld none (.tmp 48), some (45, true), []⟩,
            ⟨(some 50), .bin .lss (.tmp 49) (.val (.int .i64 0)), some (45, true), []⟩,
            ⟨(some 51), .pick (.tmp 45) (.tmp 50) (.val (.bool false)), none, []⟩,
            ⟨(some 42), .mv (.tmp 51), none, []⟩])
          (.cond (.tmp 42)
           (.reg [
             ⟨(some 52), .mv (.tmp 0), none, []⟩,
             ⟨(some 53), .mv (.tmp 2), none, []⟩,
             ⟨(some 54), .idxA 1 (.tmp 53) (.val (.int .i64 0)), none, []⟩,
             ⟨(some 55), .ld none (.tmp 54), none, []⟩,
             ⟨(some 56), .conv .i64 (.tmp 55), none, []⟩,
             ⟨(some 57), .nilc (.tmp 52), none, []⟩,
             ⟨(some 58), .off 1 (.tmp 57), none, []⟩,
             ⟨none, .st 1 (.tmp 58) (.tmp 56), none, []⟩])
           (.seq
            (.reg [
              ⟨(some 60), .mv (.tmp 1), none, []⟩,
              ⟨(some 61), .bin .eql (.tmp 60) (.val (.int .i64 9)), none, []⟩,
              ⟨(some 62), .mv (.tmp 61), none, []⟩,
              ⟨(some 63), .mv (.tmp 0), some (62, true), []⟩,
              ⟨(some 64), .nilc (.tmp 63), some (62, true), []⟩,
              ⟨(some 65), .off 1 (.tmp 64), some (62, true), []⟩,
              ⟨(some 66), .ld none (.tmp 65), some (62, true), []⟩,
              ⟨(some 67), .mv (.tmp 2), some (62, true), []⟩,
              ⟨(some 68), .idxA 1 (.tmp 67) (.val (.int .i64 0)), some (62, true), []⟩,
              ⟨(some 69), .ld none (.tmp 68), some (62, true), []⟩,
              ⟨(some 70), .conv .i64 (.tmp 69), some (62, true), []⟩,
              ⟨(some 71), .bin .neq (.tmp 66) (.tmp 70), some (62, true), []⟩,
              ⟨(some 72), .pick (.tmp 62) (.tmp 71) (.val (.bool false)), none, []⟩,
              ⟨(some 59), .mv (.tmp 72), none, []⟩])
            (.cond (.tmp 59)
             (.seq
              (.reg [
                ⟨(some 73), .bld [(.int .i64 0), (.int .i64 0), (.slice .full 0 [])] [(0, 1, (.val (.int .i64 2))), (1, 1, (.val (.int .i64 11)))], none, []⟩,
                ⟨none, .st 3 (.tmp 6) (.tmp 73), none, []⟩])
              .ret)
             .skip)))))))))
    (.seq
     (.reg [
       ⟨(some 74), .bld [(.int .i64 0), (.int .i64 0), (.slice .full 0 [])] [], none, []⟩,
       ⟨none, .st 3 (.tmp 6) (.tmp 74), none, []⟩])
     .ret)))
def c_open_said__take : AF := ⟨b_open_said__take, 75, [.cell 6 (some 3)]⟩
theorem p_open_said__take : prepFunc Try.prog 67 = some c_open_said__take ∧ hasBody Try.prog 67 = true := ⟨by kernel_rfl, by kernel_rfl⟩
def tab : Tab := [(7, c_ridgewaylaw06_OpenFields), (15, c_ridgewaylaw06_awake), (16, c_open_Get), (19, c_open_Sane), (22, c_open_Put), (24, c_msg_Sane), (41, c_octet_Get), (42, c_octet_Put), (43, c_open_read), (44, c_open_fault), (50, c_open_number), (51, c_open_holds), (52, c_open_labelled), (53, c_open_short), (55, c_msg_Least), (56, c_msg_wrong), (57, c_octet_Take), (65, c_open_each), (66, c_open_read_1), (67, c_open_said__take)]
theorem tab_ok : Tab.Ok Try.prog tab := ⟨p_ridgewaylaw06_OpenFields, p_ridgewaylaw06_awake, p_open_Get, p_open_Sane, p_open_Put, p_msg_Sane, p_octet_Get, p_octet_Put, p_open_read, p_open_fault, p_open_number, p_open_holds, p_open_labelled, p_open_short, p_msg_Least, p_msg_wrong, p_octet_Take, p_open_each, p_open_read_1, p_open_said__take, trivial⟩
end Go.Proofs.Ytgakgilaikgboaa
