/- Plain forms of functions. -/
import Derived.Test.YtmlhbmlppgoklacAv16
import Derived.Test.YtmlhbmlppgoklacProg
import Derived.KernelRfl
namespace Go.Proofs.Ytmlhbmlppgoklac
set_option maxRecDepth 100000
set_option maxHeartbeats 1000000
def b_ridgewaylaw09_RouteIs : AC :=
  (.seq
   (.reg [
     ⟨(some 4), .box 27 6 (.tmp 1), none⟩,
     ⟨(some 6), .mv (.val (.bool false)), none⟩])
   (.seq
    (.reg [
      ⟨(some 13), .call 8 [], none⟩,
      ⟨(some 7), .mv (.tmp 13), none⟩])
    (.seq
     (.seq
      (.reg [
        ⟨(some 14), .mv (.tmp 0), none⟩,
        ⟨(some 15), .call 9 [(.tmp 14)], none⟩,
        ⟨(some 16), .un .not (.tmp 15), none⟩,
        ⟨(some 17), .mv (.tmp 16), none⟩,
        ⟨(some 18), .ld (some 6) (.tmp 4), some (17, false)⟩,
        ⟨(some 19), .lit 27 6 [(.tmp 18)], some (17, false)⟩,
        ⟨(some 20), .call 9 [(.tmp 19)], some (17, false)⟩,
        ⟨(some 21), .un .not (.tmp 20), some (17, false)⟩,
        ⟨(some 22), .pick (.tmp 17) (.val (.bool true)) (.tmp 21), none⟩])
      (.cond (.tmp 22)
       (.seq
        (.reg [
          ⟨(some 23), .mv (.tmp 7), none⟩,
          ⟨(some 6), .mv (.tmp 23), none⟩])
        .ret)
       .skip))
     (.seq
      (.seq
       (.reg [
         ⟨(some 8), .mv (.val (.int .i64 0)), none⟩])
       (.block 0
        (.loop
         (.seq
          (.seq
           (.reg [
             ⟨(some 24), .mv (.tmp 8), none⟩,
             ⟨(some 25), .mv (.tmp 0), none⟩,
             ⟨(some 26), .len (.tmp 25), none⟩,
             ⟨(some 27), .bin .lss (.tmp 24) (.tmp 26), none⟩])
           (.cond (.tmp 27)
            .skip
            (.exit 0)))
          (.seq
           (.block 1
            (.seq
             (.reg [
               ⟨(some 30), .mv (.tmp 0), none⟩,
               ⟨(some 31), .mv (.tmp 8), none⟩,
               ⟨(some 32), .idxA 6 (.tmp 30) (.tmp 31), none⟩,
               ⟨(some 33), .ld (some 6) (.tmp 32), none⟩,
               ⟨(some 34), .ld (some 6) (.tmp 4), none⟩,
               ⟨(some 35), .call 10 [(.tmp 33), (.tmp 34)], none⟩,
               ⟨(some 36), .mv (.tmp 0), none⟩,
               ⟨(some 37), .mv (.tmp 8), none⟩,
               ⟨(some 38), .idxA 6 (.tmp 36) (.tmp 37), none⟩,
               ⟨(some 39), .ld (some 6) (.tmp 38), none⟩,
               ⟨(some 40), .ld (some 6) (.tmp 4), none⟩,
               ⟨(some 41), .call 11 [(.tmp 39), (.tmp 40)], none⟩,
               ⟨(some 42), .bin .neq (.tmp 35) (.tmp 41), none⟩,
               ⟨(some 43), .mv (.tmp 42), none⟩,
               ⟨(some 44), .mv (.tmp 0), some (43, false)⟩,
               ⟨(some 45), .mv (.tmp 8), some (43, false)⟩,
               ⟨(some 46), .idxA 6 (.tmp 44) (.tmp 45), some (43, false)⟩,
               ⟨(some 47), .ld (some 6) (.tmp 46), some (43, false)⟩,
               ⟨(some 48), .ld (some 6) (.tmp 4), some (43, false)⟩,
               ⟨(some 49), .call 12 [(.tmp 47), (.tmp 48)], some (43, false)⟩,
               ⟨(some 50), .mv (.tmp 0), some (43, false)⟩,
               ⟨(some 51), .mv (.tmp 8), some (43, false)⟩,
               ⟨(some 52), .idxA 6 (.tmp 50) (.tmp 51), some (43, false)⟩,
               ⟨(some 53), .ld (some 6) (.tmp 52), some (43, false)⟩,
               ⟨(some 54), .ld (some 6) (.tmp 4), some (43, false)⟩,
               ⟨(some 55), .call 13 [(.tmp 53), (.tmp 54)], some (43, false)⟩,
               ⟨(some 56), .eqB true (.tmp 49) (.tmp 55), some (43, false)⟩,
               ⟨(some 57), .pick (.tmp 43) (.val (.bool true)) (.tmp 56), none⟩,
               ⟨(some 58), .mv (.tmp 57), none⟩,
               ⟨(some 59), .mv (.tmp 0), some (58, false)⟩,
               ⟨(some 60), .mv (.tmp 8), some (58, false)⟩,
               ⟨(some 61), .idxA 6 (.tmp 59) (.tmp 60), some (58, false)⟩,
               ⟨(some 62), .ld (some 6) (.tmp 61), some (58, false)⟩,
               ⟨(some 63), .call 14 [(.tmp 62)], some (58, false)⟩,
               ⟨(some 64), .mv (.tmp 0), some (58, false)⟩,
               ⟨(some 65), .mv (.tmp 8), some (58, false)⟩,
               ⟨(some 66), .idxA 6 (.tmp 64) (.tmp 65), some (58, false)⟩,
               ⟨(some 67), .ld (some 6) (.tmp 66), some (58, false)⟩,
               ⟨(some 68), .call 15 [(.tmp 67)], some (58, false)⟩,
               ⟨(some 69), .eqB true (.tmp 63) (.tmp 68), some (58, false)⟩,
               ⟨(some 70), .pick (.tmp 58) (.val (.bool true)) (.tmp 69), none⟩])
             (.cond (.tmp 70)
              (.seq
               (.reg [
                 ⟨(some 6), .mv (.val (.bool false)), none⟩])
               .ret)
              .skip)))
           (.reg [
             ⟨(some 28), .mv (.tmp 8), none⟩,
             ⟨(some 29), .bin .add (.tmp 28) (.val (.int .i64 1)), none⟩,
             ⟨(some 8), .mv (.tmp 29), none⟩]))))))
      (.seq
       (.reg [
         ⟨(some 72), .mv (.tmp 0), none⟩,
         ⟨(some 73), .call 16 [(.tmp 72)], none⟩,
         ⟨(some 71), .mv (.tmp 73), none⟩,
         ⟨(some 74), .ext (.tmp 71) 0, none⟩,
         ⟨(some 75), .ext (.tmp 71) 1, none⟩,
         ⟨(some 9), .box 27 6 (.val (.agg [(.int .i64 0), (.int .i64 0), (.slice .full 0 []), (.int .i64 0), (.int .i64 0), (.int .i64 0)])), none⟩,
         ⟨none, .st 6 (.tmp 9) (.tmp 74), none⟩,
         ⟨(some 10), .mv (.tmp 75), none⟩])
       (.seq
        (.reg [
          ⟨(some 77), .mv (.tmp 0), none⟩,
          ⟨(some 78), .call 17 [(.tmp 77)], none⟩,
          ⟨(some 76), .mv (.tmp 78), none⟩,
          ⟨(some 79), .ext (.tmp 76) 0, none⟩,
          ⟨(some 80), .ext (.tmp 76) 1, none⟩,
          ⟨(some 11), .box 27 6 (.val (.agg [(.int .i64 0), (.int .i64 0), (.slice .full 0 []), (.int .i64 0), (.int .i64 0), (.int .i64 0)])), none⟩,
          ⟨none, .st 6 (.tmp 11) (.tmp 79), none⟩,
          ⟨(some 12), .mv (.tmp 80), none⟩])
        (.seq
         (.reg [
           ⟨(some 81), .mv (.tmp 7), none⟩,
           ⟨(some 82), .mv (.tmp 81), none⟩,
           ⟨(some 83), .mv (.tmp 10), some (82, true)⟩,
           ⟨(some 84), .mv (.tmp 12), some (82, true)⟩,
           ⟨(some 85), .eqB false (.tmp 83) (.tmp 84), some (82, true)⟩,
           ⟨(some 86), .pick (.tmp 82) (.tmp 85) (.val (.bool false)), none⟩,
           ⟨(some 87), .mv (.tmp 86), none⟩,
           ⟨(some 88), .ld (some 6) (.tmp 9), some (87, true)⟩,
           ⟨(some 89), .ld (some 6) (.tmp 11), some (87, true)⟩,
           ⟨(some 90), .call 13 [(.tmp 88), (.tmp 89)], some (87, true)⟩,
           ⟨(some 91), .pick (.tmp 87) (.tmp 90) (.val (.bool false)), none⟩,
           ⟨(some 92), .mv (.tmp 91), none⟩,
           ⟨(some 93), .ld (some 6) (.tmp 4), some (92, true)⟩,
           ⟨(some 94), .call 14 [(.tmp 93)], some (92, true)⟩,
           ⟨(some 95), .ld (some 6) (.tmp 4), some (92, true)⟩,
           ⟨(some 96), .call 15 [(.tmp 95)], some (92, true)⟩,
           ⟨(some 97), .eqB false (.tmp 94) (.tmp 96), some (92, true)⟩,
           ⟨(some 98), .pick (.tmp 92) (.tmp 97) (.val (.bool false)), none⟩,
           ⟨(some 99), .mv (.tmp 98), none⟩,
           ⟨(some 100), .mv (.tmp 2), some (99, true)⟩,
           ⟨(some 101), .call 18 [(.tmp 100)], some (99, true)⟩,
           ⟨(some 102), .mv (.tmp 2), some (99, true)⟩,
           ⟨(some 103), .call 19 [(.tmp 102)], some (99, true)⟩,
           ⟨(some 104), .call 13 [(.tmp 101), (.tmp 103)], some (99, true)⟩,
           ⟨(some 105), .pick (.tmp 99) (.tmp 104) (.val (.bool false)), none⟩,
           ⟨(some 6), .mv (.tmp 105), none⟩])
         .ret)))))))
def c_ridgewaylaw09_RouteIs : AF := ⟨b_ridgewaylaw09_RouteIs, 106, [.tmp 6]⟩
theorem p_ridgewaylaw09_RouteIs : prepFunc Try.prog 3 = some c_ridgewaylaw09_RouteIs ∧ hasBody Try.prog 3 = true := ⟨by kernel_rfl, by kernel_rfl⟩
def b_ridgewaylaw09_RouteOrder : AC :=
  (.seq
   (.reg [
     ⟨(some 3), .box 27 6 (.tmp 0), none⟩,
     ⟨(some 4), .box 27 6 (.tmp 1), none⟩,
     ⟨(some 5), .box 27 6 (.tmp 2), none⟩,
     ⟨(some 6), .mv (.val (.bool false)), none⟩])
   (.seq
    (.reg [
      ⟨(some 10), .call 8 [], none⟩,
      ⟨(some 7), .mv (.tmp 10), none⟩])
    (.seq
     (.seq
      (.reg [
        ⟨(some 11), .ld (some 6) (.tmp 3), none⟩,
        ⟨(some 12), .ld (some 6) (.tmp 4), none⟩,
        ⟨(some 13), .ld (some 6) (.tmp 5), none⟩,
        ⟨(some 14), .lit 27 6 [(.tmp 11), (.tmp 12), (.tmp 13)], none⟩,
        ⟨(some 15), .call 9 [(.tmp 14)], none⟩,
        ⟨(some 16), .un .not (.tmp 15), none⟩])
      (.cond (.tmp 16)
       (.seq
        (.reg [
          ⟨(some 17), .mv (.tmp 7), none⟩,
          ⟨(some 6), .mv (.tmp 17), none⟩])
        .ret)
       .skip))
     (.seq
      (.reg [
        ⟨(some 18), .ld (some 6) (.tmp 3), none⟩,
        ⟨(some 19), .ld (some 6) (.tmp 4), none⟩,
        ⟨(some 20), .call 10 [(.tmp 18), (.tmp 19)], none⟩,
        ⟨(some 8), .mv (.tmp 20), none⟩])
      (.seq
       (.reg [
         ⟨(some 21), .ld (some 6) (.tmp 4), none⟩,
         ⟨(some 22), .ld (some 6) (.tmp 5), none⟩,
         ⟨(some 23), .call 10 [(.tmp 21), (.tmp 22)], none⟩,
         ⟨(some 9), .mv (.tmp 23), none⟩])
       (.seq
        (.seq
         (.reg [
           ⟨(some 24), .mv (.tmp 8), none⟩,
           ⟨(some 25), .bin .lss (.tmp 24) (.val (.int .i64 (-1))), none⟩,
           ⟨(some 26), .mv (.tmp 25), none⟩,
           ⟨(some 27), .mv (.tmp 8), some (26, false)⟩,
           ⟨(some 28), .bin .gtr (.tmp 27) (.val (.int .i64 1)), some (26, false)⟩,
           ⟨(some 29), .pick (.tmp 26) (.val (.bool true)) (.tmp 28), none⟩,
           ⟨(some 30), .mv (.tmp 29), none⟩,
           ⟨(some 31), .ld (some 6) (.tmp 4), some (30, false)⟩,
           ⟨(some 32), .ld (some 6) (.tmp 3), some (30, false)⟩,
           ⟨(some 33), .call 10 [(.tmp 31), (.tmp 32)], some (30, false)⟩,
           ⟨(some 34), .mv (.tmp 8), some (30, false)⟩,
           ⟨(some 35), .un .neg (.tmp 34), some (30, false)⟩,
           ⟨(some 36), .bin .neq (.tmp 33) (.tmp 35), some (30, false)⟩,
           ⟨(some 37), .pick (.tmp 30) (.val (.bool true)) (.tmp 36), none⟩,
           ⟨(some 38), .mv (.tmp 37), none⟩,
           ⟨(some 39), .mv (.tmp 8), some (38, false)⟩,
           ⟨(some 40), .bin .eql (.tmp 39) (.val (.int .i64 0)), some (38, false)⟩,
           ⟨(some 41), .ld (some 6) (.tmp 3), some (38, false)⟩,
           ⟨(some 42), .ld (some 6) (.tmp 4), some (38, false)⟩,
           ⟨(some 43), .call 12 [(.tmp 41), (.tmp 42)], some (38, false)⟩,
           ⟨(some 44), .eqB true (.tmp 40) (.tmp 43), some (38, false)⟩,
           ⟨(some 45), .pick (.tmp 38) (.val (.bool true)) (.tmp 44), none⟩,
           ⟨(some 46), .mv (.tmp 45), none⟩,
           ⟨(some 47), .ld (some 6) (.tmp 3), some (46, false)⟩,
           ⟨(some 48), .ld (some 6) (.tmp 4), some (46, false)⟩,
           ⟨(some 49), .call 12 [(.tmp 47), (.tmp 48)], some (46, false)⟩,
           ⟨(some 50), .ld (some 6) (.tmp 4), some (46, false)⟩,
           ⟨(some 51), .ld (some 6) (.tmp 3), some (46, false)⟩,
           ⟨(some 52), .call 12 [(.tmp 50), (.tmp 51)], some (46, false)⟩,
           ⟨(some 53), .eqB true (.tmp 49) (.tmp 52), some (46, false)⟩,
           ⟨(some 54), .pick (.tmp 46) (.val (.bool true)) (.tmp 53), none⟩])
         (.cond (.tmp 54)
          (.seq
           (.reg [
             ⟨(some 6), .mv (.val (.bool false)), none⟩])
           .ret)
          .skip))
        (.seq
         (.reg [
           ⟨(some 55), .mv (.tmp 7), none⟩,
           ⟨(some 56), .mv (.tmp 55), none⟩,
           ⟨(some 57), .mv (.tmp 8), some (56, true)⟩,
           ⟨(some 58), .bin .gtr (.tmp 57) (.val (.int .i64 0)), some (56, true)⟩,
           ⟨(some 59), .mv (.tmp 58), some (56, true)⟩,
           ⟨(some 60), .mv (.tmp 9), some (59, false)⟩,
           ⟨(some 61), .bin .gtr (.tmp 60) (.val (.int .i64 0)), some (59, false)⟩,
           ⟨(some 62), .pick (.tmp 59) (.val (.bool true)) (.tmp 61), some (56, true)⟩,
           ⟨(some 63), .mv (.tmp 62), some (56, true)⟩,
           ⟨(some 64), .ld (some 6) (.tmp 3), some (63, false)⟩,
           ⟨(some 65), .ld (some 6) (.tmp 5), some (63, false)⟩,
           ⟨(some 66), .call 10 [(.tmp 64), (.tmp 65)], some (63, false)⟩,
           ⟨(some 67), .bin .leq (.tmp 66) (.val (.int .i64 0)), some (63, false)⟩,
           ⟨(some 68), .pick (.tmp 63) (.val (.bool true)) (.tmp 67), some (56, true)⟩,
           ⟨(some 69), .pick (.tmp 56) (.tmp 68) (.val (.bool false)), none⟩,
           ⟨(some 70), .mv (.tmp 69), none⟩,
           ⟨(some 71), .mv (.tmp 8), some (70, true)⟩,
           ⟨(some 72), .bin .geq (.tmp 71) (.val (.int .i64 0)), some (70, true)⟩,
           ⟨(some 73), .mv (.tmp 72), some (70, true)⟩,
           ⟨(some 74), .mv (.tmp 9), some (73, false)⟩,
           ⟨(some 75), .bin .gtr (.tmp 74) (.val (.int .i64 0)), some (73, false)⟩,
           ⟨(some 76), .pick (.tmp 73) (.val (.bool true)) (.tmp 75), some (70, true)⟩,
           ⟨(some 77), .mv (.tmp 76), some (70, true)⟩,
           ⟨(some 78), .ld (some 6) (.tmp 3), some (77, false)⟩,
           ⟨(some 79), .ld (some 6) (.tmp 5), some (77, false)⟩,
           ⟨(some 80), .call 10 [(.tmp 78), (.tmp 79)], some (77, false)⟩,
           ⟨(some 81), .bin .lss (.tmp 80) (.val (.int .i64 0)), some (77, false)⟩,
           ⟨(some 82), .pick (.tmp 77) (.val (.bool true)) (.tmp 81), some (70, true)⟩,
           ⟨(some 83), .pick (.tmp 70) (.tmp 82) (.val (.bool false)), none⟩,
           ⟨(some 6), .mv (.tmp 83), none⟩])
         .ret)))))))
def c_ridgewaylaw09_RouteOrder : AF := ⟨b_ridgewaylaw09_RouteOrder, 84, [.tmp 6]⟩
theorem p_ridgewaylaw09_RouteOrder : prepFunc Try.prog 4 = some c_ridgewaylaw09_RouteOrder ∧ hasBody Try.prog 4 = true := ⟨by kernel_rfl, by kernel_rfl⟩
def b_ridgewaylaw09_RouteFirst : AC :=
  (.seq
   (.reg [
     ⟨(some 2), .box 27 6 (.tmp 0), none⟩,
     ⟨(some 3), .box 27 6 (.tmp 1), none⟩,
     ⟨(some 4), .mv (.val (.bool false)), none⟩])
   (.seq
    (.reg [
      ⟨(some 7), .call 8 [], none⟩,
      ⟨(some 5), .mv (.tmp 7), none⟩])
    (.seq
     (.seq
      (.reg [
        ⟨(some 8), .ld (some 6) (.tmp 2), none⟩,
        ⟨(some 9), .ld (some 6) (.tmp 3), none⟩,
        ⟨(some 10), .lit 27 6 [(.tmp 8), (.tmp 9)], none⟩,
        ⟨(some 11), .call 9 [(.tmp 10)], none⟩,
        ⟨(some 12), .un .not (.tmp 11), none⟩])
      (.cond (.tmp 12)
       (.seq
        (.reg [
          ⟨(some 13), .mv (.tmp 5), none⟩,
          ⟨(some 4), .mv (.tmp 13), none⟩])
        .ret)
       .skip))
     (.seq
      (.reg [
        ⟨(some 14), .ld (some 6) (.tmp 2), none⟩,
        ⟨(some 15), .ld (some 6) (.tmp 3), none⟩,
        ⟨(some 16), .call 10 [(.tmp 14), (.tmp 15)], none⟩,
        ⟨(some 6), .mv (.tmp 16), none⟩])
      (.seq
       (.block 0
        (.seq
         (.reg [
           ⟨(some 18), .off 0 (.tmp 2), none⟩,
           ⟨(some 19), .ld none (.tmp 18), none⟩,
           ⟨(some 20), .off 0 (.tmp 3), none⟩,
           ⟨(some 21), .ld none (.tmp 20), none⟩,
           ⟨(some 22), .bin .neq (.tmp 19) (.tmp 21), none⟩,
           ⟨(some 17), .mv (.tmp 22), none⟩])
         (.cond (.tmp 17)
          (.seq
           (.reg [
             ⟨(some 23), .mv (.tmp 5), none⟩,
             ⟨(some 24), .mv (.tmp 23), none⟩,
             ⟨(some 25), .mv (.tmp 6), some (24, true)⟩,
             ⟨(some 26), .bin .eql (.tmp 25) (.val (.int .i64 (-1))), some (24, true)⟩,
             ⟨(some 27), .off 0 (.tmp 2), some (24, true)⟩,
             ⟨(some 28), .ld none (.tmp 27), some (24, true)⟩,
             ⟨(some 29), .off 0 (.tmp 3), some (24, true)⟩,
             ⟨(some 30), .ld none (.tmp 29), some (24, true)⟩,
             ⟨(some 31), .bin .gtr (.tmp 28) (.tmp 30), some (24, true)⟩,
             ⟨(some 32), .eqB false (.tmp 26) (.tmp 31), some (24, true)⟩,
             ⟨(some 33), .pick (.tmp 24) (.tmp 32) (.val (.bool false)), none⟩,
             ⟨(some 4), .mv (.tmp 33), none⟩])
           .ret)
          (.seq
           (.reg [
             ⟨(some 35), .off 1 (.tmp 2), none⟩,
             ⟨(some 36), .off 1 (.tmp 35), none⟩,
             ⟨(some 37), .ld none (.tmp 36), none⟩,
             ⟨(some 38), .len (.tmp 37), none⟩,
             ⟨(some 39), .off 1 (.tmp 3), none⟩,
             ⟨(some 40), .off 1 (.tmp 39), none⟩,
             ⟨(some 41), .ld none (.tmp 40), none⟩,
             ⟨(some 42), .len (.tmp 41), none⟩,
             ⟨(some 43), .bin .neq (.tmp 38) (.tmp 42), none⟩,
             ⟨(some 34), .mv (.tmp 43), none⟩])
           (.cond (.tmp 34)
            (.seq
             (.reg [
               ⟨(some 44), .mv (.tmp 5), none⟩,
               ⟨(some 45), .mv (.tmp 44), none⟩,
               ⟨(some 46), .mv (.tmp 6), some (45, true)⟩,
               ⟨(some 47), .bin .eql (.tmp 46) (.val (.int .i64 (-1))), some (45, true)⟩,
               ⟨(some 48), .off 1 (.tmp 2), some (45, true)⟩,
               ⟨(some 49), .off 1 (.tmp 48), some (45, true)⟩,
               ⟨(some 50), .ld none (.tmp 49), some (45, true)⟩,
               ⟨(some 51), .len (.tmp 50), some (45, true)⟩,
               ⟨(some 52), .off 1 (.tmp 3), some (45, true)⟩,
               ⟨(some 53), .off 1 (.tmp 52), some (45, true)⟩,
               ⟨(some 54), .ld none (.tmp 53), some (45, true)⟩,
               ⟨(some 55), .len (.tmp 54), some (45, true)⟩,
               ⟨(some 56), .bin .lss (.tmp 51) (.tmp 55), some (45, true)⟩,
               ⟨(some 57), .eqB false (.tmp 47) (.tmp 56), some (45, true)⟩,
               ⟨(some 58), .pick (.tmp 45) (.tmp 57) (.val (.bool false)), none⟩,
               ⟨(some 4), .mv (.tmp 58), none⟩])
             .ret)
            (.seq
             (.reg [
               ⟨(some 60), .off 1 (.tmp 2), none⟩,
               ⟨(some 61), .off 0 (.tmp 60), none⟩,
               ⟨(some 62), .ld none (.tmp 61), none⟩,
               ⟨(some 63), .off 1 (.tmp 3), none⟩,
               ⟨(some 64), .off 0 (.tmp 63), none⟩,
               ⟨(some 65), .ld none (.tmp 64), none⟩,
               ⟨(some 66), .bin .neq (.tmp 62) (.tmp 65), none⟩,
               ⟨(some 59), .mv (.tmp 66), none⟩])
             (.cond (.tmp 59)
              (.seq
               (.reg [
                 ⟨(some 67), .mv (.tmp 5), none⟩,
                 ⟨(some 68), .mv (.tmp 67), none⟩,
                 ⟨(some 69), .mv (.tmp 6), some (68, true)⟩,
                 ⟨(some 70), .bin .eql (.tmp 69) (.val (.int .i64 (-1))), some (68, true)⟩,
                 ⟨(some 71), .off 1 (.tmp 2), some (68, true)⟩,
                 ⟨(some 72), .off 0 (.tmp 71), some (68, true)⟩,
                 ⟨(some 73), .ld none (.tmp 72), some (68, true)⟩,
                 ⟨(some 74), .off 1 (.tmp 3), some (68, true)⟩,
                 ⟨(some 75), .off 0 (.tmp 74), some (68, true)⟩,
                 ⟨(some 76), .ld none (.tmp 75), some (68, true)⟩,
                 ⟨(some 77), .bin .lss (.tmp 73) (.tmp 76), some (68, true)⟩,
                 ⟨(some 78), .eqB false (.tmp 70) (.tmp 77), some (68, true)⟩,
                 ⟨(some 79), .pick (.tmp 68) (.tmp 78) (.val (.bool false)), none⟩,
                 ⟨(some 4), .mv (.tmp 79), none⟩])
               .ret)
              .skip)))))))
       (.seq
        (.reg [
          ⟨(some 80), .mv (.tmp 5), none⟩,
          ⟨(some 4), .mv (.tmp 80), none⟩])
        .ret))))))
def c_ridgewaylaw09_RouteFirst : AF := ⟨b_ridgewaylaw09_RouteFirst, 81, [.tmp 4]⟩
theorem p_ridgewaylaw09_RouteFirst : prepFunc Try.prog 5 = some c_ridgewaylaw09_RouteFirst ∧ hasBody Try.prog 5 = true := ⟨by kernel_rfl, by kernel_rfl⟩
def b_ridgewaylaw09_RouteBest : AC :=
  (.seq
   (.reg [
     ⟨(some 4), .mv (.val (.bool false)), none⟩])
   (.seq
    (.reg [
      ⟨(some 19), .call 8 [], none⟩,
      ⟨(some 5), .mv (.tmp 19), none⟩])
    (.seq
     (.seq
      (.reg [
        ⟨(some 20), .mv (.tmp 0), none⟩,
        ⟨(some 21), .call 9 [(.tmp 20)], none⟩,
        ⟨(some 22), .un .not (.tmp 21), none⟩,
        ⟨(some 23), .mv (.tmp 22), none⟩,
        ⟨(some 24), .mv (.tmp 1), some (23, false)⟩,
        ⟨(some 25), .call 9 [(.tmp 24)], some (23, false)⟩,
        ⟨(some 26), .un .not (.tmp 25), some (23, false)⟩,
        ⟨(some 27), .pick (.tmp 23) (.val (.bool true)) (.tmp 26), none⟩])
      (.cond (.tmp 27)
       (.seq
        (.reg [
          ⟨(some 28), .mv (.tmp 5), none⟩,
          ⟨(some 4), .mv (.tmp 28), none⟩])
        .ret)
       .skip))
     (.seq
      (.reg [
        ⟨(some 30), .mv (.tmp 0), none⟩,
        ⟨(some 31), .call 16 [(.tmp 30)], none⟩,
        ⟨(some 29), .mv (.tmp 31), none⟩,
        ⟨(some 32), .ext (.tmp 29) 0, none⟩,
        ⟨(some 33), .ext (.tmp 29) 1, none⟩,
        ⟨(some 6), .box 27 6 (.val (.agg [(.int .i64 0), (.int .i64 0), (.slice .full 0 []), (.int .i64 0), (.int .i64 0), (.int .i64 0)])), none⟩,
        ⟨none, .st 6 (.tmp 6) (.tmp 32), none⟩,
        ⟨(some 7), .mv (.tmp 33), none⟩])
      (.seq
       (.reg [
         ⟨(some 35), .mv (.tmp 1), none⟩,
         ⟨(some 36), .call 16 [(.tmp 35)], none⟩,
         ⟨(some 34), .mv (.tmp 36), none⟩,
         ⟨(some 37), .ext (.tmp 34) 0, none⟩,
         ⟨(some 38), .ext (.tmp 34) 1, none⟩,
         ⟨(some 8), .box 27 6 (.val (.agg [(.int .i64 0), (.int .i64 0), (.slice .full 0 []), (.int .i64 0), (.int .i64 0), (.int .i64 0)])), none⟩,
         ⟨none, .st 6 (.tmp 8) (.tmp 37), none⟩,
         ⟨(some 9), .mv (.tmp 38), none⟩])
       (.seq
        (.reg [
          ⟨(some 10), .mv (.val (.bool false)), none⟩])
        (.seq
         (.reg [
           ⟨(some 11), .mv (.val (.slice .full 0 [])), none⟩])
         (.seq
          (.seq
           (.reg [
             ⟨(some 39), .mv (.tmp 0), none⟩,
             ⟨(some 40), .len (.tmp 39), none⟩,
             ⟨(some 41), .bin .sub (.tmp 40) (.val (.int .i64 1)), none⟩,
             ⟨(some 12), .mv (.tmp 41), none⟩])
           (.block 0
            (.loop
             (.seq
              (.seq
               (.reg [
                 ⟨(some 42), .mv (.tmp 12), none⟩,
                 ⟨(some 43), .bin .geq (.tmp 42) (.val (.int .i64 0)), none⟩])
               (.cond (.tmp 43)
                .skip
                (.exit 0)))
              (.seq
               (.block 1
                (.seq
                 (.reg [
                   ⟨(some 46), .mv (.tmp 10), none⟩,
                   ⟨(some 47), .mv (.tmp 46), none⟩,
                   ⟨(some 48), .mv (.tmp 0), some (47, false)⟩,
                   ⟨(some 49), .mv (.tmp 12), some (47, false)⟩,
                   ⟨(some 50), .idxA 6 (.tmp 48) (.tmp 49), some (47, false)⟩,
                   ⟨(some 51), .ld (some 6) (.tmp 50), some (47, false)⟩,
                   ⟨(some 52), .ld (some 6) (.tmp 6), some (47, false)⟩,
                   ⟨(some 53), .call 12 [(.tmp 51), (.tmp 52)], some (47, false)⟩,
                   ⟨(some 54), .pick (.tmp 47) (.val (.bool true)) (.tmp 53), none⟩,
                   ⟨(some 10), .mv (.tmp 54), none⟩])
                 (.seq
                  (.reg [
                    ⟨(some 55), .mv (.tmp 11), none⟩,
                    ⟨(some 56), .mv (.tmp 0), none⟩,
                    ⟨(some 57), .mv (.tmp 12), none⟩,
                    ⟨(some 58), .idxA 6 (.tmp 56) (.tmp 57), none⟩,
                    ⟨(some 59), .ld (some 6) (.tmp 58), none⟩,
                    ⟨(some 60), .lit 27 6 [(.tmp 59)], none⟩,
                    ⟨(some 61), .app 27 6 64 (.tmp 55) (.tmp 60), none⟩,
                    ⟨(some 11), .mv (.tmp 61), none⟩])
                  (.seq
                   (.reg [
                     ⟨(some 62), .mv (.tmp 0), none⟩,
                     ⟨(some 63), .mv (.tmp 12), none⟩,
                     ⟨(some 64), .idxA 6 (.tmp 62) (.tmp 63), none⟩,
                     ⟨(some 65), .ld (some 6) (.tmp 64), none⟩,
                     ⟨(some 66), .ld (some 6) (.tmp 6), none⟩,
                     ⟨(some 67), .call 10 [(.tmp 65), (.tmp 66)], none⟩,
                     ⟨(some 68), .bin .lss (.tmp 67) (.val (.int .i64 0)), none⟩])
                   (.cond (.tmp 68)
                    (.seq
                     (.reg [
                       ⟨(some 4), .mv (.val (.bool false)), none⟩])
                     .ret)
                    .skip)))))
               (.reg [
                 ⟨(some 44), .mv (.tmp 12), none⟩,
                 ⟨(some 45), .bin .sub (.tmp 44) (.val (.int .i64 1)), none⟩,
                 ⟨(some 12), .mv (.tmp 45), none⟩]))))))
          (.seq
           (.seq
            (.reg [
              ⟨(some 69), .mv (.tmp 7), none⟩,
              ⟨(some 70), .mv (.tmp 0), none⟩,
              ⟨(some 71), .len (.tmp 70), none⟩,
              ⟨(some 72), .bin .gtr (.tmp 71) (.val (.int .i64 0)), none⟩,
              ⟨(some 73), .eqB true (.tmp 69) (.tmp 72), none⟩,
              ⟨(some 74), .mv (.tmp 73), none⟩,
              ⟨(some 75), .mv (.tmp 7), some (74, false)⟩,
              ⟨(some 76), .mv (.tmp 10), some (74, false)⟩,
              ⟨(some 77), .eqB true (.tmp 75) (.tmp 76), some (74, false)⟩,
              ⟨(some 78), .pick (.tmp 74) (.val (.bool true)) (.tmp 77), none⟩])
            (.cond (.tmp 78)
             (.seq
              (.reg [
                ⟨(some 4), .mv (.val (.bool false)), none⟩])
              .ret)
             .skip))
           (.seq
            (.seq
             (.reg [
               ⟨(some 79), .mv (.tmp 7), none⟩,
               ⟨(some 80), .un .not (.tmp 79), none⟩])
             (.cond (.tmp 80)
              (.seq
               (.reg [
                 ⟨(some 81), .mv (.tmp 5), none⟩,
                 ⟨(some 82), .mv (.tmp 81), none⟩,
                 ⟨(some 83), .ld (some 6) (.tmp 6), some (82, true)⟩,
                 ⟨(some 84), .bld [(.int .i64 0), (.int .i64 0), (.slice .full 0 []), (.int .i64 0), (.int .i64 0), (.int .i64 0)] [], some (82, true)⟩,
                 ⟨(some 85), .call 12 [(.tmp 83), (.tmp 84)], some (82, true)⟩,
                 ⟨(some 86), .pick (.tmp 82) (.tmp 85) (.val (.bool false)), none⟩,
                 ⟨(some 4), .mv (.tmp 86), none⟩])
               .ret)
              .skip))
            (.seq
             (.reg [
               ⟨(some 87), .mv (.tmp 11), none⟩,
               ⟨(some 88), .mv (.tmp 0), none⟩,
               ⟨(some 89), .idxA 6 (.tmp 88) (.val (.int .i64 0)), none⟩,
               ⟨(some 90), .ld (some 6) (.tmp 89), none⟩,
               ⟨(some 91), .lit 27 6 [(.tmp 90)], none⟩,
               ⟨(some 92), .app 27 6 64 (.tmp 87) (.tmp 91), none⟩,
               ⟨(some 11), .mv (.tmp 92), none⟩])
             (.seq
              (.reg [
                ⟨(some 94), .mv (.tmp 11), none⟩,
                ⟨(some 95), .call 16 [(.tmp 94)], none⟩,
                ⟨(some 93), .mv (.tmp 95), none⟩,
                ⟨(some 96), .ext (.tmp 93) 0, none⟩,
                ⟨(some 97), .ext (.tmp 93) 1, none⟩,
                ⟨(some 13), .box 27 6 (.val (.agg [(.int .i64 0), (.int .i64 0), (.slice .full 0 []), (.int .i64 0), (.int .i64 0), (.int .i64 0)])), none⟩,
                ⟨none, .st 6 (.tmp 13) (.tmp 96), none⟩,
                ⟨(some 14), .mv (.tmp 97), none⟩])
              (.seq
               (.reg [
                 ⟨(some 98), .lit 27 6 [], none⟩,
                 ⟨(some 99), .mv (.tmp 0), none⟩,
                 ⟨(some 100), .app 27 6 64 (.tmp 98) (.tmp 99), none⟩,
                 ⟨(some 15), .mv (.tmp 100), none⟩])
               (.seq
                (.reg [
                  ⟨(some 101), .mv (.tmp 15), none⟩,
                  ⟨(some 102), .mv (.tmp 1), none⟩,
                  ⟨(some 103), .app 27 6 64 (.tmp 101) (.tmp 102), none⟩,
                  ⟨(some 15), .mv (.tmp 103), none⟩])
                (.seq
                 (.reg [
                   ⟨(some 105), .mv (.tmp 15), none⟩,
                   ⟨(some 106), .call 16 [(.tmp 105)], none⟩,
                   ⟨(some 104), .mv (.tmp 106), none⟩,
                   ⟨(some 107), .ext (.tmp 104) 0, none⟩,
                   ⟨(some 108), .ext (.tmp 104) 1, none⟩,
                   ⟨(some 16), .box 27 6 (.val (.agg [(.int .i64 0), (.int .i64 0), (.slice .full 0 []), (.int .i64 0), (.int .i64 0), (.int .i64 0)])), none⟩,
                   ⟨none, .st 6 (.tmp 16) (.tmp 107), none⟩,
                   ⟨(some 17), .mv (.tmp 108), none⟩])
                 (.seq
                  (.reg [
                    ⟨(some 109), .ld (some 6) (.tmp 6), none⟩,
                    ⟨(some 18), .box 27 6 (.val (.agg [(.int .i64 0), (.int .i64 0), (.slice .full 0 []), (.int .i64 0), (.int .i64 0), (.int .i64 0)])), none⟩,
                    ⟨none, .st 6 (.tmp 18) (.tmp 109), none⟩])
                  (.seq
                   (.seq
                    (.reg [
                      ⟨(some 110), .mv (.tmp 9), none⟩,
                      ⟨(some 111), .mv (.tmp 110), none⟩,
                      ⟨(some 112), .ld (some 6) (.tmp 8), some (111, true)⟩,
                      ⟨(some 113), .ld (some 6) (.tmp 6), some (111, true)⟩,
                      ⟨(some 114), .call 10 [(.tmp 112), (.tmp 113)], some (111, true)⟩,
                      ⟨(some 115), .bin .lss (.tmp 114) (.val (.int .i64 0)), some (111, true)⟩,
                      ⟨(some 116), .pick (.tmp 111) (.tmp 115) (.val (.bool false)), none⟩])
                    (.cond (.tmp 116)
                     (.reg [
                       ⟨(some 117), .ld (some 6) (.tmp 8), none⟩,
                       ⟨none, .st 6 (.tmp 18) (.tmp 117), none⟩])
                     .skip))
                   (.seq
                    (.reg [
                      ⟨(some 118), .mv (.tmp 5), none⟩,
                      ⟨(some 119), .mv (.tmp 118), none⟩,
                      ⟨(some 120), .mv (.tmp 14), some (119, true)⟩,
                      ⟨(some 121), .pick (.tmp 119) (.tmp 120) (.val (.bool false)), none⟩,
                      ⟨(some 122), .mv (.tmp 121), none⟩,
                      ⟨(some 123), .ld (some 6) (.tmp 13), some (122, true)⟩,
                      ⟨(some 124), .ld (some 6) (.tmp 6), some (122, true)⟩,
                      ⟨(some 125), .call 12 [(.tmp 123), (.tmp 124)], some (122, true)⟩,
                      ⟨(some 126), .pick (.tmp 122) (.tmp 125) (.val (.bool false)), none⟩,
                      ⟨(some 127), .mv (.tmp 126), none⟩,
                      ⟨(some 128), .mv (.tmp 17), some (127, true)⟩,
                      ⟨(some 129), .pick (.tmp 127) (.tmp 128) (.val (.bool false)), none⟩,
                      ⟨(some 130), .mv (.tmp 129), none⟩,
                      ⟨(some 131), .ld (some 6) (.tmp 16), some (130, true)⟩,
                      ⟨(some 132), .ld (some 6) (.tmp 18), some (130, true)⟩,
                      ⟨(some 133), .call 12 [(.tmp 131), (.tmp 132)], some (130, true)⟩,
                      ⟨(some 134), .pick (.tmp 130) (.tmp 133) (.val (.bool false)), none⟩,
                      ⟨(some 4), .mv (.tmp 134), none⟩])
                    .ret))))))))))))))))))
def c_ridgewaylaw09_RouteBest : AF := ⟨b_ridgewaylaw09_RouteBest, 135, [.tmp 4]⟩
theorem p_ridgewaylaw09_RouteBest : prepFunc Try.prog 6 = some c_ridgewaylaw09_RouteBest ∧ hasBody Try.prog 6 = true := ⟨by kernel_rfl, by kernel_rfl⟩
def b_ridgewaylaw09_RouteLonger : AC :=
  (.seq
   (.reg [
     ⟨(some 4), .box 27 6 (.tmp 0), none⟩,
     ⟨(some 8), .mv (.val (.bool false)), none⟩])
   (.seq
    (.reg [
      ⟨(some 12), .call 8 [], none⟩,
      ⟨(some 9), .mv (.tmp 12), none⟩])
    (.seq
     (.seq
      (.reg [
        ⟨(some 13), .off 1 (.tmp 4), none⟩,
        ⟨(some 14), .off 1 (.tmp 13), none⟩,
        ⟨(some 15), .ld none (.tmp 14), none⟩,
        ⟨(some 16), .len (.tmp 15), none⟩,
        ⟨(some 17), .bin .gtr (.tmp 16) (.val (.int .i64 100)), none⟩,
        ⟨(some 18), .mv (.tmp 17), none⟩,
        ⟨(some 19), .off 0 (.tmp 4), some (18, false)⟩,
        ⟨(some 20), .ld none (.tmp 19), some (18, false)⟩,
        ⟨(some 21), .bin .lss (.tmp 20) (.val (.int .i64 (-1000000))), some (18, false)⟩,
        ⟨(some 22), .pick (.tmp 18) (.val (.bool true)) (.tmp 21), none⟩,
        ⟨(some 23), .mv (.tmp 22), none⟩,
        ⟨(some 24), .mv (.tmp 3), some (23, false)⟩,
        ⟨(some 25), .bin .lss (.tmp 24) (.val (.int .i64 0)), some (23, false)⟩,
        ⟨(some 26), .pick (.tmp 23) (.val (.bool true)) (.tmp 25), none⟩,
        ⟨(some 27), .mv (.tmp 26), none⟩,
        ⟨(some 28), .mv (.tmp 3), some (27, false)⟩,
        ⟨(some 29), .bin .gtr (.tmp 28) (.val (.int .i64 1000000)), some (27, false)⟩,
        ⟨(some 30), .pick (.tmp 27) (.val (.bool true)) (.tmp 29), none⟩])
      (.cond (.tmp 30)
       (.seq
        (.reg [
          ⟨(some 31), .mv (.tmp 9), none⟩,
          ⟨(some 8), .mv (.tmp 31), none⟩])
        .ret)
       .skip))
     (.seq
      (.reg [
        ⟨(some 32), .mv (.tmp 2), none⟩,
        ⟨(some 33), .bin .and (.tmp 32) (.val (.int .i64 65535)), none⟩,
        ⟨(some 34), .off 1 (.tmp 4), none⟩,
        ⟨(some 35), .off 1 (.tmp 34), none⟩,
        ⟨(some 36), .ld none (.tmp 35), none⟩,
        ⟨(some 37), .len (.tmp 36), none⟩,
        ⟨(some 38), .bin .add (.tmp 37) (.val (.int .i64 1)), none⟩,
        ⟨(some 39), .bin .rem (.tmp 33) (.tmp 38), none⟩,
        ⟨(some 10), .mv (.tmp 39), none⟩])
      (.seq
       (.reg [
         ⟨(some 40), .ld (some 6) (.tmp 4), none⟩,
         ⟨(some 11), .box 27 6 (.val (.agg [(.int .i64 0), (.int .i64 0), (.slice .full 0 []), (.int .i64 0), (.int .i64 0), (.int .i64 0)])), none⟩,
         ⟨none, .st 6 (.tmp 11) (.tmp 40), none⟩])
       (.seq
        (.reg [
          ⟨(some 41), .off 0 (.tmp 4), none⟩,
          ⟨(some 42), .ld none (.tmp 41), none⟩,
          ⟨(some 43), .mv (.tmp 3), none⟩,
          ⟨(some 44), .bin .sub (.tmp 42) (.tmp 43), none⟩,
          ⟨(some 45), .off 0 (.tmp 11), none⟩,
          ⟨none, .st 1 (.tmp 45) (.tmp 44), none⟩])
        (.seq
         (.reg [
           ⟨(some 46), .lit 3 1 [], none⟩,
           ⟨(some 47), .off 1 (.tmp 4), none⟩,
           ⟨(some 48), .off 1 (.tmp 47), none⟩,
           ⟨(some 49), .ld none (.tmp 48), none⟩,
           ⟨(some 50), .mv (.tmp 10), none⟩,
           ⟨(some 51), .slc 1 (.tmp 49) none (some (.tmp 50)) none, none⟩,
           ⟨(some 52), .app 3 1 8 (.tmp 46) (.tmp 51), none⟩,
           ⟨(some 53), .off 1 (.tmp 11), none⟩,
           ⟨(some 54), .off 1 (.tmp 53), none⟩,
           ⟨none, .st 1 (.tmp 54) (.tmp 52), none⟩])
         (.seq
          (.reg [
            ⟨(some 55), .off 1 (.tmp 11), none⟩,
            ⟨(some 56), .off 1 (.tmp 55), none⟩,
            ⟨(some 57), .ld none (.tmp 56), none⟩,
            ⟨(some 58), .mv (.tmp 1), none⟩,
            ⟨(some 59), .lit 3 1 [(.tmp 58)], none⟩,
            ⟨(some 60), .app 3 1 8 (.tmp 57) (.tmp 59), none⟩,
            ⟨(some 61), .off 1 (.tmp 11), none⟩,
            ⟨(some 62), .off 1 (.tmp 61), none⟩,
            ⟨none, .st 1 (.tmp 62) (.tmp 60), none⟩])
          (.seq
           (.reg [
             ⟨(some 63), .off 1 (.tmp 11), none⟩,
             ⟨(some 64), .off 1 (.tmp 63), none⟩,
             ⟨(some 65), .ld none (.tmp 64), none⟩,
             ⟨(some 66), .off 1 (.tmp 4), none⟩,
             ⟨(some 67), .off 1 (.tmp 66), none⟩,
             ⟨(some 68), .ld none (.tmp 67), none⟩,
             ⟨(some 69), .mv (.tmp 10), none⟩,
             ⟨(some 70), .slc 1 (.tmp 68) (some (.tmp 69)) none none, none⟩,
             ⟨(some 71), .app 3 1 8 (.tmp 65) (.tmp 70), none⟩,
             ⟨(some 72), .off 1 (.tmp 11), none⟩,
             ⟨(some 73), .off 1 (.tmp 72), none⟩,
             ⟨none, .st 1 (.tmp 73) (.tmp 71), none⟩])
           (.seq
            (.reg [
              ⟨(some 74), .mv (.tmp 9), none⟩,
              ⟨(some 75), .mv (.tmp 74), none⟩,
              ⟨(some 76), .ld (some 6) (.tmp 4), some (75, true)⟩,
              ⟨(some 77), .ld (some 6) (.tmp 11), some (75, true)⟩,
              ⟨(some 78), .call 10 [(.tmp 76), (.tmp 77)], some (75, true)⟩,
              ⟨(some 79), .bin .eql (.tmp 78) (.val (.int .i64 (-1))), some (75, true)⟩,
              ⟨(some 80), .pick (.tmp 75) (.tmp 79) (.val (.bool false)), none⟩,
              ⟨(some 81), .mv (.tmp 80), none⟩,
              ⟨(some 82), .ld (some 6) (.tmp 11), some (81, true)⟩,
              ⟨(some 83), .ld (some 6) (.tmp 4), some (81, true)⟩,
              ⟨(some 84), .call 10 [(.tmp 82), (.tmp 83)], some (81, true)⟩,
              ⟨(some 85), .bin .eql (.tmp 84) (.val (.int .i64 1)), some (81, true)⟩,
              ⟨(some 86), .pick (.tmp 81) (.tmp 85) (.val (.bool false)), none⟩,
              ⟨(some 87), .mv (.tmp 86), none⟩,
              ⟨(some 88), .ld (some 6) (.tmp 4), some (87, true)⟩,
              ⟨(some 89), .ld (some 6) (.tmp 11), some (87, true)⟩,
              ⟨(some 90), .call 12 [(.tmp 88), (.tmp 89)], some (87, true)⟩,
              ⟨(some 91), .un .not (.tmp 90), some (87, true)⟩,
              ⟨(some 92), .pick (.tmp 87) (.tmp 91) (.val (.bool false)), none⟩,
              ⟨(some 8), .mv (.tmp 92), none⟩])
            .ret))))))))))
def c_ridgewaylaw09_RouteLonger : AF := ⟨b_ridgewaylaw09_RouteLonger, 93, [.tmp 8]⟩
theorem p_ridgewaylaw09_RouteLonger : prepFunc Try.prog 7 = some c_ridgewaylaw09_RouteLonger ∧ hasBody Try.prog 7 = true := ⟨by kernel_rfl, by kernel_rfl⟩
def b_ridgewaylaw09_awake : AC :=
  (.seq
   (.reg [
     ⟨(some 0), .mv (.val (.bool false)), none⟩])
   (.seq
    (.reg [
      ⟨(some 6), .lit 3 1 [(.val (.int .i64 1)), (.val (.int .i64 2)), (.val (.int .i64 3))], none⟩,
      ⟨(some 7), .bld [(.int .i64 0), (.slice .full 0 []), (.int .i64 0), (.int .i64 0)] [(1, 1, (.tmp 6)), (2, 1, (.val (.int .i64 1)))], none⟩,
      ⟨(some 8), .bld [(.int .i64 0), (.int .i64 0), (.slice .full 0 []), (.int .i64 0), (.int .i64 0), (.int .i64 0)] [(0, 1, (.val (.int .i64 300))), (1, 4, (.tmp 7))], none⟩,
      ⟨(some 1), .box 27 6 (.val (.agg [(.int .i64 0), (.int .i64 0), (.slice .full 0 []), (.int .i64 0), (.int .i64 0), (.int .i64 0)])), none⟩,
      ⟨none, .st 6 (.tmp 1) (.tmp 8), none⟩])
    (.seq
     (.reg [
       ⟨(some 9), .lit 3 1 [(.val (.int .i64 1))], none⟩,
       ⟨(some 10), .bld [(.int .i64 0), (.slice .full 0 []), (.int .i64 0), (.int .i64 0)] [(1, 1, (.tmp 9)), (2, 1, (.val (.int .i64 1)))], none⟩,
       ⟨(some 11), .bld [(.int .i64 0), (.int .i64 0), (.slice .full 0 []), (.int .i64 0), (.int .i64 0), (.int .i64 0)] [(0, 1, (.val (.int .i64 200))), (1, 4, (.tmp 10))], none⟩,
       ⟨(some 2), .box 27 6 (.val (.agg [(.int .i64 0), (.int .i64 0), (.slice .full 0 []), (.int .i64 0), (.int .i64 0), (.int .i64 0)])), none⟩,
       ⟨none, .st 6 (.tmp 2) (.tmp 11), none⟩])
     (.seq
      (.reg [
        ⟨(some 13), .ld (some 6) (.tmp 2), none⟩,
        ⟨(some 14), .ld (some 6) (.tmp 1), none⟩,
        ⟨(some 15), .lit 27 6 [(.tmp 13), (.tmp 14)], none⟩,
        ⟨(some 16), .call 16 [(.tmp 15)], none⟩,
        ⟨(some 12), .mv (.tmp 16), none⟩,
        ⟨(some 17), .ext (.tmp 12) 0, none⟩,
        ⟨(some 18), .ext (.tmp 12) 1, none⟩,
        ⟨(some 3), .box 27 6 (.val (.agg [(.int .i64 0), (.int .i64 0), (.slice .full 0 []), (.int .i64 0), (.int .i64 0), (.int .i64 0)])), none⟩,
        ⟨none, .st 6 (.tmp 3) (.tmp 17), none⟩,
        ⟨(some 4), .mv (.tmp 18), none⟩])
      (.seq
       (.reg [
         ⟨(some 19), .call 18 [(.val (.int .i64 9))], none⟩,
         ⟨(some 5), .box 27 6 (.val (.agg [(.int .i64 0), (.int .i64 0), (.slice .full 0 []), (.int .i64 0), (.int .i64 0), (.int .i64 0)])), none⟩,
         ⟨none, .st 6 (.tmp 5) (.tmp 19), none⟩])
       (.seq
        (.reg [
          ⟨(some 20), .ld (some 6) (.tmp 1), none⟩,
          ⟨(some 21), .ld (some 6) (.tmp 2), none⟩,
          ⟨(some 22), .call 10 [(.tmp 20), (.tmp 21)], none⟩,
          ⟨(some 23), .bin .eql (.tmp 22) (.val (.int .i64 (-1))), none⟩,
          ⟨(some 24), .mv (.tmp 23), none⟩,
          ⟨(some 25), .mv (.tmp 4), some (24, true)⟩,
          ⟨(some 26), .pick (.tmp 24) (.tmp 25) (.val (.bool false)), none⟩,
          ⟨(some 27), .mv (.tmp 26), none⟩,
          ⟨(some 28), .off 0 (.tmp 3), some (27, true)⟩,
          ⟨(some 29), .ld none (.tmp 28), some (27, true)⟩,
          ⟨(some 30), .bin .eql (.tmp 29) (.val (.int .i64 300)), some (27, true)⟩,
          ⟨(some 31), .pick (.tmp 27) (.tmp 30) (.val (.bool false)), none⟩,
          ⟨(some 32), .mv (.tmp 31), none⟩,
          ⟨(some 33), .ld (some 6) (.tmp 1), some (32, true)⟩,
          ⟨(some 34), .call 14 [(.tmp 33)], some (32, true)⟩,
          ⟨(some 35), .pick (.tmp 32) (.tmp 34) (.val (.bool false)), none⟩,
          ⟨(some 36), .mv (.tmp 35), none⟩,
          ⟨(some 37), .ld (some 6) (.tmp 1), some (36, true)⟩,
          ⟨(some 38), .ld (some 6) (.tmp 1), some (36, true)⟩,
          ⟨(some 39), .call 12 [(.tmp 37), (.tmp 38)], some (36, true)⟩,
          ⟨(some 40), .pick (.tmp 36) (.tmp 39) (.val (.bool false)), none⟩,
          ⟨(some 41), .mv (.tmp 40), none⟩,
          ⟨(some 42), .off 5 (.tmp 5), some (41, true)⟩,
          ⟨(some 43), .ld none (.tmp 42), some (41, true)⟩,
          ⟨(some 44), .bin .eql (.tmp 43) (.val (.int .i64 (-1))), some (41, true)⟩,
          ⟨(some 45), .pick (.tmp 41) (.tmp 44) (.val (.bool false)), none⟩,
          ⟨(some 46), .mv (.tmp 45), none⟩,
          ⟨(some 47), .off 0 (.tmp 5), some (46, true)⟩,
          ⟨(some 48), .ld none (.tmp 47), some (46, true)⟩,
          ⟨(some 49), .bin .eql (.tmp 48) (.val (.int .i64 400)), some (46, true)⟩,
          ⟨(some 50), .pick (.tmp 46) (.tmp 49) (.val (.bool false)), none⟩,
          ⟨(some 51), .mv (.tmp 50), none⟩,
          ⟨(some 52), .off 1 (.tmp 5), some (51, true)⟩,
          ⟨(some 53), .off 2 (.tmp 52), some (51, true)⟩,
          ⟨(some 54), .ld none (.tmp 53), some (51, true)⟩,
          ⟨(some 55), .bin .eql (.tmp 54) (.val (.int .i64 9)), some (51, true)⟩,
          ⟨(some 56), .pick (.tmp 51) (.tmp 55) (.val (.bool false)), none⟩,
          ⟨(some 57), .mv (.tmp 56), none⟩,
          ⟨(some 58), .ld (some 6) (.tmp 5), some (57, true)⟩,
          ⟨(some 59), .call 14 [(.tmp 58)], some (57, true)⟩,
          ⟨(some 60), .pick (.tmp 57) (.tmp 59) (.val (.bool false)), none⟩,
          ⟨(some 0), .mv (.tmp 60), none⟩])
        .ret))))))
def c_ridgewaylaw09_awake : AF := ⟨b_ridgewaylaw09_awake, 61, [.tmp 0]⟩
theorem p_ridgewaylaw09_awake : prepFunc Try.prog 8 = some c_ridgewaylaw09_awake ∧ hasBody Try.prog 8 = true := ⟨by kernel_rfl, by kernel_rfl⟩
def b_ridgewayref09_Few : AC :=
  (.seq
   (.reg [
     ⟨(some 2), .mv (.val (.bool false)), none⟩])
   (.seq
    (.seq
     (.reg [
       ⟨(some 3), .mv (.val (.int .i64 0)), none⟩])
     (.block 0
      (.loop
       (.seq
        (.seq
         (.reg [
           ⟨(some 4), .mv (.tmp 3), none⟩,
           ⟨(some 5), .mv (.tmp 0), none⟩,
           ⟨(some 6), .len (.tmp 5), none⟩,
           ⟨(some 7), .bin .lss (.tmp 4) (.tmp 6), none⟩])
         (.cond (.tmp 7)
          .skip
          (.exit 0)))
        (.seq
         (.block 1
          (.seq
           (.reg [
             ⟨(some 10), .mv (.tmp 0), none⟩,
             ⟨(some 11), .mv (.tmp 3), none⟩,
             ⟨(some 12), .idxA 6 (.tmp 10) (.tmp 11), none⟩,
             ⟨(some 13), .off 1 (.tmp 12), none⟩,
             ⟨(some 14), .off 1 (.tmp 13), none⟩,
             ⟨(some 15), .ld none (.tmp 14), none⟩,
             ⟨(some 16), .len (.tmp 15), none⟩,
             ⟨(some 17), .bin .gtr (.tmp 16) (.val (.int .i64 100)), none⟩])
           (.cond (.tmp 17)
            (.seq
             (.reg [
               ⟨(some 2), .mv (.val (.bool false)), none⟩])
             .ret)
            .skip)))
         (.reg [
           ⟨(some 8), .mv (.tmp 3), none⟩,
           ⟨(some 9), .bin .add (.tmp 8) (.val (.int .i64 1)), none⟩,
           ⟨(some 3), .mv (.tmp 9), none⟩]))))))
    (.seq
     (.reg [
       ⟨(some 18), .mv (.tmp 0), none⟩,
       ⟨(some 19), .len (.tmp 18), none⟩,
       ⟨(some 20), .bin .leq (.tmp 19) (.val (.int .i64 30)), none⟩,
       ⟨(some 2), .mv (.tmp 20), none⟩])
     .ret)))
def c_ridgewayref09_Few : AF := ⟨b_ridgewayref09_Few, 21, [.tmp 2]⟩
theorem p_ridgewayref09_Few : prepFunc Try.prog 9 = some c_ridgewayref09_Few ∧ hasBody Try.prog 9 = true := ⟨by kernel_rfl, by kernel_rfl⟩
def b_route_Compare : AC :=
  (.seq
   (.reg [
     ⟨(some 2), .box 27 6 (.tmp 0), none⟩,
     ⟨(some 3), .box 27 6 (.tmp 1), none⟩,
     ⟨(some 4), .mv (.val (.int .i64 0)), none⟩])
   (.seq
    (.reg [
      ⟨(some 9), .ld (some 6) (.tmp 2), none⟩,
      ⟨(some 10), .ld (some 6) (.tmp 3), none⟩,
      ⟨(some 11), .bld [(.int .i64 0), (.int .i64 0), (.slice .full 0 []), (.int .i64 0), (.int .i64 0), (.int .i64 0), (.int .i64 0), (.int .i64 0), (.slice .full 0 []), (.int .i64 0), (.int .i64 0), (.int .i64 0)] [(0, 6, (.tmp 9)), (6, 6, (.tmp 10))], none⟩,
      ⟨(some 5), .box 41 12 (.val (.agg [(.int .i64 0), (.int .i64 0), (.slice .full 0 []), (.int .i64 0), (.int .i64 0), (.int .i64 0), (.int .i64 0), (.int .i64 0), (.slice .full 0 []), (.int .i64 0), (.int .i64 0), (.int .i64 0)])), none⟩,
      ⟨none, .st 12 (.tmp 5) (.tmp 11), none⟩])
    (.seq
     (.seq
      (.reg [
        ⟨(some 12), .ld (some 12) (.tmp 5), none⟩,
        ⟨(some 13), .mkfn 20 [(.tmp 12)], none⟩,
        ⟨(some 14), .ld (some 12) (.tmp 5), none⟩,
        ⟨(some 15), .mkfn 21 [(.tmp 14)], none⟩,
        ⟨(some 16), .ld (some 12) (.tmp 5), none⟩,
        ⟨(some 17), .mkfn 22 [(.tmp 16)], none⟩,
        ⟨(some 18), .ld (some 12) (.tmp 5), none⟩,
        ⟨(some 19), .mkfn 23 [(.tmp 18)], none⟩,
        ⟨(some 20), .ld (some 12) (.tmp 5), none⟩,
        ⟨(some 21), .mkfn 24 [(.tmp 20)], none⟩,
        ⟨(some 22), .ld (some 12) (.tmp 5), none⟩,
        ⟨(some 23), .mkfn 25 [(.tmp 22)], none⟩,
        ⟨(some 24), .ld (some 12) (.tmp 5), none⟩,
        ⟨(some 25), .mkfn 26 [(.tmp 24)], none⟩,
        ⟨(some 26), .lit 42 1 [(.tmp 13), (.tmp 15), (.tmp 17), (.tmp 19), (.tmp 21), (.tmp 23), (.tmp 25)], none⟩,
        ⟨(some 27), .len (.tmp 26), none⟩,
        ⟨(some 28), .mv (.val (.int .i64 0)), none⟩])
      (.block 0
       (.loop
        (.seq
         (.reg [
           ⟨(some 29), .bin .lss (.tmp 28) (.tmp 27), none⟩])
         (.seq
          (.cond (.tmp 29)
           .skip
           (.exit 0))
          (.seq
           (.block 1
            (.seq
             (.reg [
               ⟨(some 30), .idxA 1 (.tmp 26) (.tmp 28), none⟩,
               ⟨(some 31), .ld none (.tmp 30), none⟩,
               ⟨(some 7), .mv (.tmp 31), none⟩])
             (.seq
              (.reg [
                ⟨(some 32), .mv (.tmp 7), none⟩,
                ⟨(some 33), .callv (.tmp 32) [], none⟩,
                ⟨(some 8), .mv (.tmp 33), none⟩])
              (.seq
               (.reg [
                 ⟨(some 34), .mv (.tmp 8), none⟩,
                 ⟨(some 35), .bin .neq (.tmp 34) (.val (.int .i64 0)), none⟩])
               (.cond (.tmp 35)
                (.seq
                 (.reg [
                   ⟨(some 36), .mv (.tmp 8), none⟩,
                   ⟨(some 4), .mv (.tmp 36), none⟩])
                 .ret)
                .skip)))))
           (.reg [
             ⟨(some 37), .bin .add (.tmp 28) (.val (.int .i64 1)), none⟩,
             ⟨(some 28), .mv (.tmp 37), none⟩])))))))
     (.seq
      (.reg [
        ⟨(some 4), .mv (.val (.int .i64 0)), none⟩])
      .ret))))
def c_route_Compare : AF := ⟨b_route_Compare, 38, [.tmp 4]⟩
theorem p_route_Compare : prepFunc Try.prog 10 = some c_route_Compare ∧ hasBody Try.prog 10 = true := ⟨by kernel_rfl, by kernel_rfl⟩
def b_ridgewayref09_Compare : AC :=
  (.seq
   (.reg [
     ⟨(some 2), .box 27 6 (.tmp 0), none⟩,
     ⟨(some 3), .box 27 6 (.tmp 1), none⟩,
     ⟨(some 4), .mv (.val (.int .i64 0)), none⟩])
   (.seq
    (.reg [
      ⟨(some 8), .off 0 (.tmp 3), none⟩,
      ⟨(some 9), .ld none (.tmp 8), none⟩,
      ⟨(some 10), .off 0 (.tmp 2), none⟩,
      ⟨(some 11), .ld none (.tmp 10), none⟩,
      ⟨(some 12), .call 27 [(.tmp 9), (.tmp 11)], none⟩,
      ⟨(some 13), .off 1 (.tmp 2), none⟩,
      ⟨(some 14), .off 1 (.tmp 13), none⟩,
      ⟨(some 15), .ld none (.tmp 14), none⟩,
      ⟨(some 16), .len (.tmp 15), none⟩,
      ⟨(some 17), .off 1 (.tmp 3), none⟩,
      ⟨(some 18), .off 1 (.tmp 17), none⟩,
      ⟨(some 19), .ld none (.tmp 18), none⟩,
      ⟨(some 20), .len (.tmp 19), none⟩,
      ⟨(some 21), .call 27 [(.tmp 16), (.tmp 20)], none⟩,
      ⟨(some 22), .off 1 (.tmp 2), none⟩,
      ⟨(some 23), .off 0 (.tmp 22), none⟩,
      ⟨(some 24), .ld none (.tmp 23), none⟩,
      ⟨(some 25), .off 1 (.tmp 3), none⟩,
      ⟨(some 26), .off 0 (.tmp 25), none⟩,
      ⟨(some 27), .ld none (.tmp 26), none⟩,
      ⟨(some 28), .call 27 [(.tmp 24), (.tmp 27)], none⟩,
      ⟨(some 29), .lit 3 1 [(.tmp 12), (.tmp 21), (.tmp 28)], none⟩,
      ⟨(some 5), .mv (.tmp 29), none⟩])
    (.seq
     (.seq
      (.reg [
        ⟨(some 6), .mv (.val (.int .i64 0)), none⟩])
      (.block 0
       (.loop
        (.seq
         (.seq
          (.reg [
            ⟨(some 30), .mv (.tmp 6), none⟩,
            ⟨(some 31), .off 1 (.tmp 2), none⟩,
            ⟨(some 32), .off 1 (.tmp 31), none⟩,
            ⟨(some 33), .ld none (.tmp 32), none⟩,
            ⟨(some 34), .len (.tmp 33), none⟩,
            ⟨(some 35), .bin .lss (.tmp 30) (.tmp 34), none⟩,
            ⟨(some 36), .mv (.tmp 35), none⟩,
            ⟨(some 37), .mv (.tmp 6), some (36, true)⟩,
            ⟨(some 38), .off 1 (.tmp 3), some (36, true)⟩,
            ⟨(some 39), .off 1 (.tmp 38), some (36, true)⟩,
            ⟨(some 40), .ld none (.tmp 39), some (36, true)⟩,
            ⟨(some 41), .len (.tmp 40), some (36, true)⟩,
            ⟨(some 42), .bin .lss (.tmp 37) (.tmp 41), some (36, true)⟩,
            ⟨(some 43), .pick (.tmp 36) (.tmp 42) (.val (.bool false)), none⟩])
          (.cond (.tmp 43)
           .skip
           (.exit 0)))
         (.seq
          (.block 1
           (.reg [
             ⟨(some 46), .mv (.tmp 5), none⟩,
             ⟨(some 47), .off 1 (.tmp 2), none⟩,
             ⟨(some 48), .off 1 (.tmp 47), none⟩,
             ⟨(some 49), .ld none (.tmp 48), none⟩,
             ⟨(some 50), .mv (.tmp 6), none⟩,
             ⟨(some 51), .idxA 1 (.tmp 49) (.tmp 50), none⟩,
             ⟨(some 52), .ld none (.tmp 51), none⟩,
             ⟨(some 53), .off 1 (.tmp 3), none⟩,
             ⟨(some 54), .off 1 (.tmp 53), none⟩,
             ⟨(some 55), .ld none (.tmp 54), none⟩,
             ⟨(some 56), .mv (.tmp 6), none⟩,
             ⟨(some 57), .idxA 1 (.tmp 55) (.tmp 56), none⟩,
             ⟨(some 58), .ld none (.tmp 57), none⟩,
             ⟨(some 59), .call 27 [(.tmp 52), (.tmp 58)], none⟩,
             ⟨(some 60), .lit 3 1 [(.tmp 59)], none⟩,
             ⟨(some 61), .app 3 1 8 (.tmp 46) (.tmp 60), none⟩,
             ⟨(some 5), .mv (.tmp 61), none⟩]))
          (.reg [
            ⟨(some 44), .mv (.tmp 6), none⟩,
            ⟨(some 45), .bin .add (.tmp 44) (.val (.int .i64 1)), none⟩,
            ⟨(some 6), .mv (.tmp 45), none⟩]))))))
     (.seq
      (.reg [
        ⟨(some 62), .mv (.tmp 5), none⟩,
        ⟨(some 63), .off 1 (.tmp 2), none⟩,
        ⟨(some 64), .off 2 (.tmp 63), none⟩,
        ⟨(some 65), .ld none (.tmp 64), none⟩,
        ⟨(some 66), .off 1 (.tmp 3), none⟩,
        ⟨(some 67), .off 2 (.tmp 66), none⟩,
        ⟨(some 68), .ld none (.tmp 67), none⟩,
        ⟨(some 69), .call 27 [(.tmp 65), (.tmp 68)], none⟩,
        ⟨(some 70), .off 1 (.tmp 2), none⟩,
        ⟨(some 71), .off 3 (.tmp 70), none⟩,
        ⟨(some 72), .ld none (.tmp 71), none⟩,
        ⟨(some 73), .off 1 (.tmp 3), none⟩,
        ⟨(some 74), .off 3 (.tmp 73), none⟩,
        ⟨(some 75), .ld none (.tmp 74), none⟩,
        ⟨(some 76), .call 27 [(.tmp 72), (.tmp 75)], none⟩,
        ⟨(some 77), .off 5 (.tmp 2), none⟩,
        ⟨(some 78), .ld none (.tmp 77), none⟩,
        ⟨(some 79), .off 5 (.tmp 3), none⟩,
        ⟨(some 80), .ld none (.tmp 79), none⟩,
        ⟨(some 81), .call 27 [(.tmp 78), (.tmp 80)], none⟩,
        ⟨(some 82), .lit 3 1 [(.tmp 69), (.tmp 76), (.tmp 81)], none⟩,
        ⟨(some 83), .app 3 1 8 (.tmp 62) (.tmp 82), none⟩,
        ⟨(some 5), .mv (.tmp 83), none⟩])
      (.seq
       (.seq
        (.reg [
          ⟨(some 7), .mv (.val (.int .i64 0)), none⟩])
        (.block 2
         (.loop
          (.seq
           (.seq
            (.reg [
              ⟨(some 84), .mv (.tmp 7), none⟩,
              ⟨(some 85), .mv (.tmp 5), none⟩,
              ⟨(some 86), .len (.tmp 85), none⟩,
              ⟨(some 87), .bin .lss (.tmp 84) (.tmp 86), none⟩])
            (.cond (.tmp 87)
             .skip
             (.exit 2)))
           (.seq
            (.block 3
             (.seq
              (.reg [
                ⟨(some 90), .mv (.tmp 5), none⟩,
                ⟨(some 91), .mv (.tmp 7), none⟩,
                ⟨(some 92), .idxA 1 (.tmp 90) (.tmp 91), none⟩,
                ⟨(some 93), .ld none (.tmp 92), none⟩,
                ⟨(some 94), .bin .neq (.tmp 93) (.val (.int .i64 0)), none⟩])
              (.cond (.tmp 94)
               (.seq
                (.reg [
                  ⟨(some 95), .mv (.tmp 5), none⟩,
                  ⟨(some 96), .mv (.tmp 7), none⟩,
                  ⟨(some 97), .idxA 1 (.tmp 95) (.tmp 96), none⟩,
                  ⟨(some 98), .ld none (.tmp 97), none⟩,
                  ⟨(some 4), .mv (.tmp 98), none⟩])
                .ret)
               .skip)))
            (.reg [
              ⟨(some 88), .mv (.tmp 7), none⟩,
              ⟨(some 89), .bin .add (.tmp 88) (.val (.int .i64 1)), none⟩,
              ⟨(some 7), .mv (.tmp 89), none⟩]))))))
       (.seq
        (.reg [
          ⟨(some 4), .mv (.val (.int .i64 0)), none⟩])
        .ret))))))
def c_ridgewayref09_Compare : AF := ⟨b_ridgewayref09_Compare, 99, [.tmp 4]⟩
theorem p_ridgewayref09_Compare : prepFunc Try.prog 11 = some c_ridgewayref09_Compare ∧ hasBody Try.prog 11 = true := ⟨by kernel_rfl, by kernel_rfl⟩
def b_route_Same : AC :=
  (.seq
   (.reg [
     ⟨(some 2), .box 27 6 (.tmp 0), none⟩,
     ⟨(some 3), .box 27 6 (.tmp 1), none⟩,
     ⟨(some 4), .mv (.val (.bool false)), none⟩])
   (.seq
    (.reg [
      ⟨(some 5), .ld (some 6) (.tmp 2), none⟩,
      ⟨(some 6), .ld (some 6) (.tmp 3), none⟩,
      ⟨(some 7), .call 10 [(.tmp 5), (.tmp 6)], none⟩,
      ⟨(some 8), .bin .eql (.tmp 7) (.val (.int .i64 0)), none⟩,
      ⟨(some 4), .mv (.tmp 8), none⟩])
    .ret))
def c_route_Same : AF := ⟨b_route_Same, 9, [.tmp 4]⟩
theorem p_route_Same : prepFunc Try.prog 12 = some c_route_Same ∧ hasBody Try.prog 12 = true := ⟨by kernel_rfl, by kernel_rfl⟩
def b_ridgewayref09_Same : AC :=
  (.seq
   (.reg [
     ⟨(some 2), .box 27 6 (.tmp 0), none⟩,
     ⟨(some 3), .box 27 6 (.tmp 1), none⟩,
     ⟨(some 4), .mv (.val (.bool false)), none⟩])
   (.seq
    (.reg [
      ⟨(some 5), .off 0 (.tmp 2), none⟩,
      ⟨(some 6), .ld none (.tmp 5), none⟩,
      ⟨(some 7), .off 0 (.tmp 3), none⟩,
      ⟨(some 8), .ld none (.tmp 7), none⟩,
      ⟨(some 9), .bin .eql (.tmp 6) (.tmp 8), none⟩,
      ⟨(some 10), .mv (.tmp 9), none⟩,
      ⟨(some 11), .off 5 (.tmp 2), some (10, true)⟩,
      ⟨(some 12), .ld none (.tmp 11), some (10, true)⟩,
      ⟨(some 13), .off 5 (.tmp 3), some (10, true)⟩,
      ⟨(some 14), .ld none (.tmp 13), some (10, true)⟩,
      ⟨(some 15), .bin .eql (.tmp 12) (.tmp 14), some (10, true)⟩,
      ⟨(some 16), .pick (.tmp 10) (.tmp 15) (.val (.bool false)), none⟩,
      ⟨(some 17), .mv (.tmp 16), none⟩,
      ⟨(some 18), .off 1 (.tmp 2), some (17, true)⟩,
      ⟨(some 19), .ld (some 4) (.tmp 18), some (17, true)⟩,
      ⟨(some 20), .off 1 (.tmp 3), some (17, true)⟩,
      ⟨(some 21), .ld (some 4) (.tmp 20), some (17, true)⟩,
      ⟨(some 22), .call 28 [(.tmp 19), (.tmp 21)], some (17, true)⟩,
      ⟨(some 23), .pick (.tmp 17) (.tmp 22) (.val (.bool false)), none⟩,
      ⟨(some 4), .mv (.tmp 23), none⟩])
    .ret))
def c_ridgewayref09_Same : AF := ⟨b_ridgewayref09_Same, 24, [.tmp 4]⟩
theorem p_ridgewayref09_Same : prepFunc Try.prog 13 = some c_ridgewayref09_Same ∧ hasBody Try.prog 13 = true := ⟨by kernel_rfl, by kernel_rfl⟩
def b_route_Sane : AC :=
  (.seq
   (.reg [
     ⟨(some 1), .box 27 6 (.tmp 0), none⟩,
     ⟨(some 2), .mv (.val (.bool false)), none⟩])
   (.seq
    (.seq
     (.reg [
       ⟨(some 3), .off 1 (.tmp 1), none⟩,
       ⟨(some 4), .ld (some 4) (.tmp 3), none⟩,
       ⟨(some 5), .call 29 [(.tmp 4)], none⟩,
       ⟨(some 6), .un .not (.tmp 5), none⟩,
       ⟨(some 7), .mv (.tmp 6), none⟩,
       ⟨(some 8), .off 1 (.tmp 1), some (7, false)⟩,
       ⟨(some 9), .off 1 (.tmp 8), some (7, false)⟩,
       ⟨(some 10), .ld none (.tmp 9), some (7, false)⟩,
       ⟨(some 11), .len (.tmp 10), some (7, false)⟩,
       ⟨(some 12), .bin .gtr (.tmp 11) (.val (.int .i64 32)), some (7, false)⟩,
       ⟨(some 13), .pick (.tmp 7) (.val (.bool true)) (.tmp 12), none⟩])
     (.cond (.tmp 13)
      (.seq
       (.reg [
         ⟨(some 2), .mv (.val (.bool false)), none⟩])
       .ret)
      .skip))
    (.seq
     (.seq
      (.reg [
        ⟨(some 14), .off 5 (.tmp 1), none⟩,
        ⟨(some 15), .ld none (.tmp 14), none⟩,
        ⟨(some 16), .bin .eql (.tmp 15) (.val (.int .i64 (-1))), none⟩])
      (.cond (.tmp 16)
       (.seq
        (.reg [
          ⟨(some 17), .off 0 (.tmp 1), none⟩,
          ⟨(some 18), .ld none (.tmp 17), none⟩,
          ⟨(some 19), .bin .eql (.tmp 18) (.val (.int .i64 400)), none⟩,
          ⟨(some 20), .mv (.tmp 19), none⟩,
          ⟨(some 21), .off 1 (.tmp 1), some (20, true)⟩,
          ⟨(some 22), .off 1 (.tmp 21), some (20, true)⟩,
          ⟨(some 23), .ld none (.tmp 22), some (20, true)⟩,
          ⟨(some 24), .len (.tmp 23), some (20, true)⟩,
          ⟨(some 25), .bin .eql (.tmp 24) (.val (.int .i64 0)), some (20, true)⟩,
          ⟨(some 26), .pick (.tmp 20) (.tmp 25) (.val (.bool false)), none⟩,
          ⟨(some 27), .mv (.tmp 26), none⟩,
          ⟨(some 28), .off 1 (.tmp 1), some (27, true)⟩,
          ⟨(some 29), .off 0 (.tmp 28), some (27, true)⟩,
          ⟨(some 30), .ld none (.tmp 29), some (27, true)⟩,
          ⟨(some 31), .bin .eql (.tmp 30) (.val (.int .i64 0)), some (27, true)⟩,
          ⟨(some 32), .pick (.tmp 27) (.tmp 31) (.val (.bool false)), none⟩,
          ⟨(some 33), .mv (.tmp 32), none⟩,
          ⟨(some 34), .off 1 (.tmp 1), some (33, true)⟩,
          ⟨(some 35), .off 3 (.tmp 34), some (33, true)⟩,
          ⟨(some 36), .ld none (.tmp 35), some (33, true)⟩,
          ⟨(some 37), .bin .eql (.tmp 36) (.val (.int .i64 0)), some (33, true)⟩,
          ⟨(some 38), .pick (.tmp 33) (.tmp 37) (.val (.bool false)), none⟩,
          ⟨(some 2), .mv (.tmp 38), none⟩])
        .ret)
       .skip))
     (.seq
      (.reg [
        ⟨(some 39), .off 5 (.tmp 1), none⟩,
        ⟨(some 40), .ld none (.tmp 39), none⟩,
        ⟨(some 41), .bin .geq (.tmp 40) (.val (.int .i64 0)), none⟩,
        ⟨(some 42), .mv (.tmp 41), none⟩,
        ⟨(some 43), .off 5 (.tmp 1), some (42, true)⟩,
        ⟨(some 44), .ld none (.tmp 43), some (42, true)⟩,
        ⟨(some 45), .bin .lss (.tmp 44) (.val (.int .i64 8)), some (42, true)⟩,
        ⟨(some 46), .pick (.tmp 42) (.tmp 45) (.val (.bool false)), none⟩,
        ⟨(some 47), .mv (.tmp 46), none⟩,
        ⟨(some 48), .off 0 (.tmp 1), some (47, true)⟩,
        ⟨(some 49), .ld none (.tmp 48), some (47, true)⟩,
        ⟨(some 50), .bin .geq (.tmp 49) (.val (.int .i64 1)), some (47, true)⟩,
        ⟨(some 51), .pick (.tmp 47) (.tmp 50) (.val (.bool false)), none⟩,
        ⟨(some 52), .mv (.tmp 51), none⟩,
        ⟨(some 53), .off 0 (.tmp 1), some (52, true)⟩,
        ⟨(some 54), .ld none (.tmp 53), some (52, true)⟩,
        ⟨(some 55), .bin .lss (.tmp 54) (.val (.int .i64 400)), some (52, true)⟩,
        ⟨(some 56), .pick (.tmp 52) (.tmp 55) (.val (.bool false)), none⟩,
        ⟨(some 2), .mv (.tmp 56), none⟩])
      .ret))))
def c_route_Sane : AF := ⟨b_route_Sane, 57, [.tmp 2]⟩
theorem p_route_Sane : prepFunc Try.prog 14 = some c_route_Sane ∧ hasBody Try.prog 14 = true := ⟨by kernel_rfl, by kernel_rfl⟩
def b_ridgewayref09_Sane : AC :=
  (.seq
   (.reg [
     ⟨(some 1), .box 27 6 (.tmp 0), none⟩,
     ⟨(some 2), .mv (.val (.bool false)), none⟩])
   (.seq
    (.seq
     (.reg [
       ⟨(some 3), .off 1 (.tmp 1), none⟩,
       ⟨(some 4), .ld (some 4) (.tmp 3), none⟩,
       ⟨(some 5), .call 30 [(.tmp 4)], none⟩,
       ⟨(some 6), .un .not (.tmp 5), none⟩,
       ⟨(some 7), .mv (.tmp 6), none⟩,
       ⟨(some 8), .off 1 (.tmp 1), some (7, false)⟩,
       ⟨(some 9), .off 1 (.tmp 8), some (7, false)⟩,
       ⟨(some 10), .ld none (.tmp 9), some (7, false)⟩,
       ⟨(some 11), .len (.tmp 10), some (7, false)⟩,
       ⟨(some 12), .bin .gtr (.tmp 11) (.val (.int .i64 32)), some (7, false)⟩,
       ⟨(some 13), .pick (.tmp 7) (.val (.bool true)) (.tmp 12), none⟩])
     (.cond (.tmp 13)
      (.seq
       (.reg [
         ⟨(some 2), .mv (.val (.bool false)), none⟩])
       .ret)
      .skip))
    (.seq
     (.seq
      (.reg [
        ⟨(some 14), .off 5 (.tmp 1), none⟩,
        ⟨(some 15), .ld none (.tmp 14), none⟩,
        ⟨(some 16), .bin .eql (.tmp 15) (.val (.int .i64 (-1))), none⟩])
      (.cond (.tmp 16)
       (.seq
        (.reg [
          ⟨(some 17), .off 0 (.tmp 1), none⟩,
          ⟨(some 18), .ld none (.tmp 17), none⟩,
          ⟨(some 19), .bin .eql (.tmp 18) (.val (.int .i64 400)), none⟩,
          ⟨(some 20), .mv (.tmp 19), none⟩,
          ⟨(some 21), .off 1 (.tmp 1), some (20, true)⟩,
          ⟨(some 22), .off 1 (.tmp 21), some (20, true)⟩,
          ⟨(some 23), .ld none (.tmp 22), some (20, true)⟩,
          ⟨(some 24), .len (.tmp 23), some (20, true)⟩,
          ⟨(some 25), .bin .eql (.tmp 24) (.val (.int .i64 0)), some (20, true)⟩,
          ⟨(some 26), .pick (.tmp 20) (.tmp 25) (.val (.bool false)), none⟩,
          ⟨(some 27), .mv (.tmp 26), none⟩,
          ⟨(some 28), .off 1 (.tmp 1), some (27, true)⟩,
          ⟨(some 29), .off 0 (.tmp 28), some (27, true)⟩,
          ⟨(some 30), .ld none (.tmp 29), some (27, true)⟩,
          ⟨(some 31), .bin .eql (.tmp 30) (.val (.int .i64 0)), some (27, true)⟩,
          ⟨(some 32), .pick (.tmp 27) (.tmp 31) (.val (.bool false)), none⟩,
          ⟨(some 33), .mv (.tmp 32), none⟩,
          ⟨(some 34), .off 1 (.tmp 1), some (33, true)⟩,
          ⟨(some 35), .off 3 (.tmp 34), some (33, true)⟩,
          ⟨(some 36), .ld none (.tmp 35), some (33, true)⟩,
          ⟨(some 37), .bin .eql (.tmp 36) (.val (.int .i64 0)), some (33, true)⟩,
          ⟨(some 38), .pick (.tmp 33) (.tmp 37) (.val (.bool false)), none⟩,
          ⟨(some 2), .mv (.tmp 38), none⟩])
        .ret)
       .skip))
     (.seq
      (.reg [
        ⟨(some 39), .off 5 (.tmp 1), none⟩,
        ⟨(some 40), .ld none (.tmp 39), none⟩,
        ⟨(some 41), .bin .geq (.tmp 40) (.val (.int .i64 0)), none⟩,
        ⟨(some 42), .mv (.tmp 41), none⟩,
        ⟨(some 43), .off 5 (.tmp 1), some (42, true)⟩,
        ⟨(some 44), .ld none (.tmp 43), some (42, true)⟩,
        ⟨(some 45), .bin .leq (.tmp 44) (.val (.int .i64 7)), some (42, true)⟩,
        ⟨(some 46), .pick (.tmp 42) (.tmp 45) (.val (.bool false)), none⟩,
        ⟨(some 47), .mv (.tmp 46), none⟩,
        ⟨(some 48), .off 0 (.tmp 1), some (47, true)⟩,
        ⟨(some 49), .ld none (.tmp 48), some (47, true)⟩,
        ⟨(some 50), .bin .geq (.tmp 49) (.val (.int .i64 1)), some (47, true)⟩,
        ⟨(some 51), .pick (.tmp 47) (.tmp 50) (.val (.bool false)), none⟩,
        ⟨(some 52), .mv (.tmp 51), none⟩,
        ⟨(some 53), .off 0 (.tmp 1), some (52, true)⟩,
        ⟨(some 54), .ld none (.tmp 53), some (52, true)⟩,
        ⟨(some 55), .bin .leq (.tmp 54) (.val (.int .i64 399)), some (52, true)⟩,
        ⟨(some 56), .pick (.tmp 52) (.tmp 55) (.val (.bool false)), none⟩,
        ⟨(some 2), .mv (.tmp 56), none⟩])
      .ret))))
def c_ridgewayref09_Sane : AF := ⟨b_ridgewayref09_Sane, 57, [.tmp 2]⟩
theorem p_ridgewayref09_Sane : prepFunc Try.prog 15 = some c_ridgewayref09_Sane ∧ hasBody Try.prog 15 = true := ⟨by kernel_rfl, by kernel_rfl⟩
def b_route_Best : AC :=
  (.seq
   (.reg [
     ⟨(some 2), .box 27 6 (.val (.agg [(.int .i64 0), (.int .i64 0), (.slice .full 0 []), (.int .i64 0), (.int .i64 0), (.int .i64 0)])), none⟩,
     ⟨(some 3), .mv (.val (.bool false)), none⟩])
   (.seq
    (.seq
     (.reg [
       ⟨(some 4), .mv (.tmp 0), none⟩,
       ⟨(some 5), .len (.tmp 4), none⟩,
       ⟨(some 6), .bin .eql (.tmp 5) (.val (.int .i64 0)), none⟩])
     (.cond (.tmp 6)
      (.seq
       (.reg [
         ⟨(some 7), .bld [(.int .i64 0), (.int .i64 0), (.slice .full 0 []), (.int .i64 0), (.int .i64 0), (.int .i64 0)] [], none⟩,
         ⟨none, .st 6 (.tmp 2) (.tmp 7), none⟩,
         ⟨(some 3), .mv (.val (.bool false)), none⟩])
       .ret)
      .skip))
    (.seq
     (.reg [
       ⟨(some 8), .mv (.tmp 0), none⟩,
       ⟨(some 9), .call 31 [(.tmp 8), (.val (.fn 10 []))], none⟩,
       ⟨none, .st 6 (.tmp 2) (.tmp 9), none⟩,
       ⟨(some 3), .mv (.val (.bool true)), none⟩])
     .ret)))
def c_route_Best : AF := ⟨b_route_Best, 10, [.cell 2 (some 6), .tmp 3]⟩
theorem p_route_Best : prepFunc Try.prog 16 = some c_route_Best ∧ hasBody Try.prog 16 = true := ⟨by kernel_rfl, by kernel_rfl⟩
def b_ridgewayref09_Best : AC :=
  (.seq
   (.reg [
     ⟨(some 2), .box 27 6 (.val (.agg [(.int .i64 0), (.int .i64 0), (.slice .full 0 []), (.int .i64 0), (.int .i64 0), (.int .i64 0)])), none⟩,
     ⟨(some 3), .mv (.val (.bool false)), none⟩])
   (.seq
    (.seq
     (.reg [
       ⟨(some 6), .mv (.tmp 0), none⟩,
       ⟨(some 7), .len (.tmp 6), none⟩,
       ⟨(some 8), .bin .eql (.tmp 7) (.val (.int .i64 0)), none⟩])
     (.cond (.tmp 8)
      (.seq
       (.reg [
         ⟨(some 9), .bld [(.int .i64 0), (.int .i64 0), (.slice .full 0 []), (.int .i64 0), (.int .i64 0), (.int .i64 0)] [], none⟩,
         ⟨none, .st 6 (.tmp 2) (.tmp 9), none⟩,
         ⟨(some 3), .mv (.val (.bool false)), none⟩])
       .ret)
      .skip))
    (.seq
     (.reg [
       ⟨(some 10), .mv (.tmp 0), none⟩,
       ⟨(some 11), .idxA 6 (.tmp 10) (.val (.int .i64 0)), none⟩,
       ⟨(some 12), .ld (some 6) (.tmp 11), none⟩,
       ⟨(some 4), .box 27 6 (.val (.agg [(.int .i64 0), (.int .i64 0), (.slice .full 0 []), (.int .i64 0), (.int .i64 0), (.int .i64 0)])), none⟩,
       ⟨none, .st 6 (.tmp 4) (.tmp 12), none⟩])
     (.seq
      (.seq
       (.reg [
         ⟨(some 5), .mv (.val (.int .i64 1)), none⟩])
       (.block 0
        (.loop
         (.seq
          (.seq
           (.reg [
             ⟨(some 13), .mv (.tmp 5), none⟩,
             ⟨(some 14), .mv (.tmp 0), none⟩,
             ⟨(some 15), .len (.tmp 14), none⟩,
             ⟨(some 16), .bin .lss (.tmp 13) (.tmp 15), none⟩])
           (.cond (.tmp 16)
            .skip
            (.exit 0)))
          (.seq
           (.block 1
            (.seq
             (.reg [
               ⟨(some 19), .mv (.tmp 0), none⟩,
               ⟨(some 20), .mv (.tmp 5), none⟩,
               ⟨(some 21), .idxA 6 (.tmp 19) (.tmp 20), none⟩,
               ⟨(some 22), .ld (some 6) (.tmp 21), none⟩,
               ⟨(some 23), .ld (some 6) (.tmp 4), none⟩,
               ⟨(some 24), .call 11 [(.tmp 22), (.tmp 23)], none⟩,
               ⟨(some 25), .bin .lss (.tmp 24) (.val (.int .i64 0)), none⟩])
             (.cond (.tmp 25)
              (.reg [
                ⟨(some 26), .mv (.tmp 0), none⟩,
                ⟨(some 27), .mv (.tmp 5), none⟩,
                ⟨(some 28), .idxA 6 (.tmp 26) (.tmp 27), none⟩,
                ⟨(some 29), .ld (some 6) (.tmp 28), none⟩,
                ⟨none, .st 6 (.tmp 4) (.tmp 29), none⟩])
              .skip)))
           (.reg [
             ⟨(some 17), .mv (.tmp 5), none⟩,
             ⟨(some 18), .bin .add (.tmp 17) (.val (.int .i64 1)), none⟩,
             ⟨(some 5), .mv (.tmp 18), none⟩]))))))
      (.seq
       (.reg [
         ⟨(some 30), .ld (some 6) (.tmp 4), none⟩,
         ⟨none, .st 6 (.tmp 2) (.tmp 30), none⟩,
         ⟨(some 3), .mv (.val (.bool true)), none⟩])
       .ret)))))
def c_ridgewayref09_Best : AF := ⟨b_ridgewayref09_Best, 31, [.cell 2 (some 6), .tmp 3]⟩
theorem p_ridgewayref09_Best : prepFunc Try.prog 17 = some c_ridgewayref09_Best ∧ hasBody Try.prog 17 = true := ⟨by kernel_rfl, by kernel_rfl⟩
def b_route_Own : AC :=
  (.seq
   (.reg [
     ⟨(some 2), .box 27 6 (.val (.agg [(.int .i64 0), (.int .i64 0), (.slice .full 0 []), (.int .i64 0), (.int .i64 0), (.int .i64 0)])), none⟩])
   (.seq
    (.reg [
      ⟨(some 3), .mv (.tmp 0), none⟩,
      ⟨(some 4), .bld [(.int .i64 0), (.slice .full 0 []), (.int .i64 0), (.int .i64 0)] [(2, 1, (.tmp 3))], none⟩,
      ⟨(some 5), .bld [(.int .i64 0), (.int .i64 0), (.slice .full 0 []), (.int .i64 0), (.int .i64 0), (.int .i64 0)] [(0, 1, (.val (.int .i64 400))), (1, 4, (.tmp 4)), (5, 1, (.val (.int .i64 (-1))))], none⟩,
      ⟨none, .st 6 (.tmp 2) (.tmp 5), none⟩])
    .ret))
def c_route_Own : AF := ⟨b_route_Own, 6, [.cell 2 (some 6)]⟩
theorem p_route_Own : prepFunc Try.prog 18 = some c_route_Own ∧ hasBody Try.prog 18 = true := ⟨by kernel_rfl, by kernel_rfl⟩
def b_ridgewayref09_Own : AC :=
  (.seq
   (.reg [
     ⟨(some 2), .box 27 6 (.val (.agg [(.int .i64 0), (.int .i64 0), (.slice .full 0 []), (.int .i64 0), (.int .i64 0), (.int .i64 0)])), none⟩])
   (.seq
    (.reg [
      ⟨(some 3), .mv (.tmp 0), none⟩,
      ⟨(some 4), .bld [(.int .i64 0), (.slice .full 0 []), (.int .i64 0), (.int .i64 0)] [(2, 1, (.tmp 3))], none⟩,
      ⟨(some 5), .bld [(.int .i64 0), (.int .i64 0), (.slice .full 0 []), (.int .i64 0), (.int .i64 0), (.int .i64 0)] [(0, 1, (.val (.int .i64 400))), (1, 4, (.tmp 4)), (5, 1, (.val (.int .i64 (-1))))], none⟩,
      ⟨none, .st 6 (.tmp 2) (.tmp 5), none⟩])
    .ret))
def c_ridgewayref09_Own : AF := ⟨b_ridgewayref09_Own, 6, [.cell 2 (some 6)]⟩
theorem p_ridgewayref09_Own : prepFunc Try.prog 19 = some c_ridgewayref09_Own ∧ hasBody Try.prog 19 = true := ⟨by kernel_rfl, by kernel_rfl⟩
def b_route_pair__pref : AC :=
  (.seq
   (.reg [
     ⟨(some 1), .box 41 12 (.tmp 0), none⟩,
     ⟨(some 2), .mv (.val (.int .i64 0)), none⟩])
   (.seq
    (.reg [
      ⟨(some 3), .off 6 (.tmp 1), none⟩,
      ⟨(some 4), .off 0 (.tmp 3), none⟩,
      ⟨(some 5), .ld none (.tmp 4), none⟩,
      ⟨(some 6), .off 0 (.tmp 1), none⟩,
      ⟨(some 7), .off 0 (.tmp 6), none⟩,
      ⟨(some 8), .ld none (.tmp 7), none⟩,
      ⟨(some 9), .call 32 [(.tmp 5), (.tmp 8)], none⟩,
      ⟨(some 2), .mv (.tmp 9), none⟩])
    .ret))
def c_route_pair__pref : AF := ⟨b_route_pair__pref, 10, [.tmp 2]⟩
theorem p_route_pair__pref : prepFunc Try.prog 20 = some c_route_pair__pref ∧ hasBody Try.prog 20 = true := ⟨by kernel_rfl, by kernel_rfl⟩
def b_route_pair__length : AC :=
  (.seq
   (.reg [
     ⟨(some 1), .box 41 12 (.tmp 0), none⟩,
     ⟨(some 2), .mv (.val (.int .i64 0)), none⟩])
   (.seq
    (.reg [
      ⟨(some 3), .off 0 (.tmp 1), none⟩,
      ⟨(some 4), .off 1 (.tmp 3), none⟩,
      ⟨(some 5), .off 1 (.tmp 4), none⟩,
      ⟨(some 6), .ld none (.tmp 5), none⟩,
      ⟨(some 7), .len (.tmp 6), none⟩,
      ⟨(some 8), .off 6 (.tmp 1), none⟩,
      ⟨(some 9), .off 1 (.tmp 8), none⟩,
      ⟨(some 10), .off 1 (.tmp 9), none⟩,
      ⟨(some 11), .ld none (.tmp 10), none⟩,
      ⟨(some 12), .len (.tmp 11), none⟩,
      ⟨(some 13), .call 32 [(.tmp 7), (.tmp 12)], none⟩,
      ⟨(some 2), .mv (.tmp 13), none⟩])
    .ret))
def c_route_pair__length : AF := ⟨b_route_pair__length, 14, [.tmp 2]⟩
theorem p_route_pair__length : prepFunc Try.prog 21 = some c_route_pair__length ∧ hasBody Try.prog 21 = true := ⟨by kernel_rfl, by kernel_rfl⟩
def b_route_pair__origin : AC :=
  (.seq
   (.reg [
     ⟨(some 1), .box 41 12 (.tmp 0), none⟩,
     ⟨(some 2), .mv (.val (.int .i64 0)), none⟩])
   (.seq
    (.reg [
      ⟨(some 3), .off 0 (.tmp 1), none⟩,
      ⟨(some 4), .off 1 (.tmp 3), none⟩,
      ⟨(some 5), .off 0 (.tmp 4), none⟩,
      ⟨(some 6), .ld none (.tmp 5), none⟩,
      ⟨(some 7), .off 6 (.tmp 1), none⟩,
      ⟨(some 8), .off 1 (.tmp 7), none⟩,
      ⟨(some 9), .off 0 (.tmp 8), none⟩,
      ⟨(some 10), .ld none (.tmp 9), none⟩,
      ⟨(some 11), .call 32 [(.tmp 6), (.tmp 10)], none⟩,
      ⟨(some 2), .mv (.tmp 11), none⟩])
    .ret))
def c_route_pair__origin : AF := ⟨b_route_pair__origin, 12, [.tmp 2]⟩
theorem p_route_pair__origin : prepFunc Try.prog 22 = some c_route_pair__origin ∧ hasBody Try.prog 22 = true := ⟨by kernel_rfl, by kernel_rfl⟩
def b_route_pair__as : AC :=
  (.seq
   (.reg [
     ⟨(some 1), .box 41 12 (.tmp 0), none⟩,
     ⟨(some 2), .mv (.val (.int .i64 0)), none⟩])
   (.seq
    (.reg [
      ⟨(some 3), .off 0 (.tmp 1), none⟩,
      ⟨(some 4), .off 1 (.tmp 3), none⟩,
      ⟨(some 5), .off 1 (.tmp 4), none⟩,
      ⟨(some 6), .ld none (.tmp 5), none⟩,
      ⟨(some 7), .off 6 (.tmp 1), none⟩,
      ⟨(some 8), .off 1 (.tmp 7), none⟩,
      ⟨(some 9), .off 1 (.tmp 8), none⟩,
      ⟨(some 10), .ld none (.tmp 9), none⟩,
      ⟨(some 11), .call 33 [(.tmp 6), (.tmp 10)], none⟩,
      ⟨(some 2), .mv (.tmp 11), none⟩])
    .ret))
def c_route_pair__as : AF := ⟨b_route_pair__as, 12, [.tmp 2]⟩
theorem p_route_pair__as : prepFunc Try.prog 23 = some c_route_pair__as ∧ hasBody Try.prog 23 = true := ⟨by kernel_rfl, by kernel_rfl⟩
def b_route_pair__hop : AC :=
  (.seq
   (.reg [
     ⟨(some 1), .box 41 12 (.tmp 0), none⟩,
     ⟨(some 2), .mv (.val (.int .i64 0)), none⟩])
   (.seq
    (.reg [
      ⟨(some 3), .off 0 (.tmp 1), none⟩,
      ⟨(some 4), .off 1 (.tmp 3), none⟩,
      ⟨(some 5), .off 2 (.tmp 4), none⟩,
      ⟨(some 6), .ld none (.tmp 5), none⟩,
      ⟨(some 7), .off 6 (.tmp 1), none⟩,
      ⟨(some 8), .off 1 (.tmp 7), none⟩,
      ⟨(some 9), .off 2 (.tmp 8), none⟩,
      ⟨(some 10), .ld none (.tmp 9), none⟩,
      ⟨(some 11), .call 32 [(.tmp 6), (.tmp 10)], none⟩,
      ⟨(some 2), .mv (.tmp 11), none⟩])
    .ret))
def c_route_pair__hop : AF := ⟨b_route_pair__hop, 12, [.tmp 2]⟩
theorem p_route_pair__hop : prepFunc Try.prog 24 = some c_route_pair__hop ∧ hasBody Try.prog 24 = true := ⟨by kernel_rfl, by kernel_rfl⟩
def b_route_pair__otc : AC :=
  (.seq
   (.reg [
     ⟨(some 1), .box 41 12 (.tmp 0), none⟩,
     ⟨(some 2), .mv (.val (.int .i64 0)), none⟩])
   (.seq
    (.reg [
      ⟨(some 3), .off 0 (.tmp 1), none⟩,
      ⟨(some 4), .off 1 (.tmp 3), none⟩,
      ⟨(some 5), .off 3 (.tmp 4), none⟩,
      ⟨(some 6), .ld none (.tmp 5), none⟩,
      ⟨(some 7), .off 6 (.tmp 1), none⟩,
      ⟨(some 8), .off 1 (.tmp 7), none⟩,
      ⟨(some 9), .off 3 (.tmp 8), none⟩,
      ⟨(some 10), .ld none (.tmp 9), none⟩,
      ⟨(some 11), .call 32 [(.tmp 6), (.tmp 10)], none⟩,
      ⟨(some 2), .mv (.tmp 11), none⟩])
    .ret))
def c_route_pair__otc : AF := ⟨b_route_pair__otc, 12, [.tmp 2]⟩
theorem p_route_pair__otc : prepFunc Try.prog 25 = some c_route_pair__otc ∧ hasBody Try.prog 25 = true := ⟨by kernel_rfl, by kernel_rfl⟩
def b_route_pair__from : AC :=
  (.seq
   (.reg [
     ⟨(some 1), .box 41 12 (.tmp 0), none⟩,
     ⟨(some 2), .mv (.val (.int .i64 0)), none⟩])
   (.seq
    (.reg [
      ⟨(some 3), .off 0 (.tmp 1), none⟩,
      ⟨(some 4), .off 5 (.tmp 3), none⟩,
      ⟨(some 5), .ld none (.tmp 4), none⟩,
      ⟨(some 6), .off 6 (.tmp 1), none⟩,
      ⟨(some 7), .off 5 (.tmp 6), none⟩,
      ⟨(some 8), .ld none (.tmp 7), none⟩,
      ⟨(some 9), .call 32 [(.tmp 5), (.tmp 8)], none⟩,
      ⟨(some 2), .mv (.tmp 9), none⟩])
    .ret))
def c_route_pair__from : AF := ⟨b_route_pair__from, 10, [.tmp 2]⟩
theorem p_route_pair__from : prepFunc Try.prog 26 = some c_route_pair__from ∧ hasBody Try.prog 26 = true := ⟨by kernel_rfl, by kernel_rfl⟩
def b_ridgewayref09_less : AC :=
  (.seq
   (.reg [
     ⟨(some 4), .mv (.val (.int .i64 0)), none⟩])
   (.seq
    (.seq
     (.reg [
       ⟨(some 5), .mv (.tmp 0), none⟩,
       ⟨(some 6), .mv (.tmp 1), none⟩,
       ⟨(some 7), .bin .lss (.tmp 5) (.tmp 6), none⟩])
     (.cond (.tmp 7)
      (.seq
       (.reg [
         ⟨(some 4), .mv (.val (.int .i64 (-1))), none⟩])
       .ret)
      .skip))
    (.seq
     (.seq
      (.reg [
        ⟨(some 8), .mv (.tmp 0), none⟩,
        ⟨(some 9), .mv (.tmp 1), none⟩,
        ⟨(some 10), .bin .gtr (.tmp 8) (.tmp 9), none⟩])
      (.cond (.tmp 10)
       (.seq
        (.reg [
          ⟨(some 4), .mv (.val (.int .i64 1)), none⟩])
        .ret)
       .skip))
     (.seq
      (.reg [
        ⟨(some 4), .mv (.val (.int .i64 0)), none⟩])
      .ret))))
def c_ridgewayref09_less : AF := ⟨b_ridgewayref09_less, 11, [.tmp 4]⟩
theorem p_ridgewayref09_less : prepFunc Try.prog 27 = some c_ridgewayref09_less ∧ hasBody Try.prog 27 = true := ⟨by kernel_rfl, by kernel_rfl⟩
def b_ridgewayref07_SamePath : AC :=
  (.seq
   (.reg [
     ⟨(some 2), .box 25 4 (.tmp 0), none⟩,
     ⟨(some 3), .box 25 4 (.tmp 1), none⟩,
     ⟨(some 4), .mv (.val (.bool false)), none⟩])
   (.seq
    (.seq
     (.reg [
       ⟨(some 6), .off 0 (.tmp 2), none⟩,
       ⟨(some 7), .ld none (.tmp 6), none⟩,
       ⟨(some 8), .off 0 (.tmp 3), none⟩,
       ⟨(some 9), .ld none (.tmp 8), none⟩,
       ⟨(some 10), .bin .neq (.tmp 7) (.tmp 9), none⟩,
       ⟨(some 11), .mv (.tmp 10), none⟩,
       ⟨(some 12), .off 2 (.tmp 2), some (11, false)⟩,
       ⟨(some 13), .ld none (.tmp 12), some (11, false)⟩,
       ⟨(some 14), .off 2 (.tmp 3), some (11, false)⟩,
       ⟨(some 15), .ld none (.tmp 14), some (11, false)⟩,
       ⟨(some 16), .bin .neq (.tmp 13) (.tmp 15), some (11, false)⟩,
       ⟨(some 17), .pick (.tmp 11) (.val (.bool true)) (.tmp 16), none⟩,
       ⟨(some 18), .mv (.tmp 17), none⟩,
       ⟨(some 19), .off 3 (.tmp 2), some (18, false)⟩,
       ⟨(some 20), .ld none (.tmp 19), some (18, false)⟩,
       ⟨(some 21), .off 3 (.tmp 3), some (18, false)⟩,
       ⟨(some 22), .ld none (.tmp 21), some (18, false)⟩,
       ⟨(some 23), .bin .neq (.tmp 20) (.tmp 22), some (18, false)⟩,
       ⟨(some 24), .pick (.tmp 18) (.val (.bool true)) (.tmp 23), none⟩,
       ⟨(some 25), .mv (.tmp 24), none⟩,
       ⟨(some 26), .off 1 (.tmp 2), some (25, false)⟩,
       ⟨(some 27), .ld none (.tmp 26), some (25, false)⟩,
       ⟨(some 28), .len (.tmp 27), some (25, false)⟩,
       ⟨(some 29), .off 1 (.tmp 3), some (25, false)⟩,
       ⟨(some 30), .ld none (.tmp 29), some (25, false)⟩,
       ⟨(some 31), .len (.tmp 30), some (25, false)⟩,
       ⟨(some 32), .bin .neq (.tmp 28) (.tmp 31), some (25, false)⟩,
       ⟨(some 33), .pick (.tmp 25) (.val (.bool true)) (.tmp 32), none⟩])
     (.cond (.tmp 33)
      (.seq
       (.reg [
         ⟨(some 4), .mv (.val (.bool false)), none⟩])
       .ret)
      .skip))
    (.seq
     (.seq
      (.reg [
        ⟨(some 5), .mv (.val (.int .i64 0)), none⟩])
      (.block 0
       (.loop
        (.seq
         (.seq
          (.reg [
            ⟨(some 34), .mv (.tmp 5), none⟩,
            ⟨(some 35), .off 1 (.tmp 2), none⟩,
            ⟨(some 36), .ld none (.tmp 35), none⟩,
            ⟨(some 37), .len (.tmp 36), none⟩,
            ⟨(some 38), .bin .lss (.tmp 34) (.tmp 37), none⟩])
          (.cond (.tmp 38)
           .skip
           (.exit 0)))
         (.seq
          (.block 1
           (.seq
            (.reg [
              ⟨(some 41), .off 1 (.tmp 2), none⟩,
              ⟨(some 42), .ld none (.tmp 41), none⟩,
              ⟨(some 43), .mv (.tmp 5), none⟩,
              ⟨(some 44), .idxA 1 (.tmp 42) (.tmp 43), none⟩,
              ⟨(some 45), .ld none (.tmp 44), none⟩,
              ⟨(some 46), .off 1 (.tmp 3), none⟩,
              ⟨(some 47), .ld none (.tmp 46), none⟩,
              ⟨(some 48), .mv (.tmp 5), none⟩,
              ⟨(some 49), .idxA 1 (.tmp 47) (.tmp 48), none⟩,
              ⟨(some 50), .ld none (.tmp 49), none⟩,
              ⟨(some 51), .bin .neq (.tmp 45) (.tmp 50), none⟩])
            (.cond (.tmp 51)
             (.seq
              (.reg [
                ⟨(some 4), .mv (.val (.bool false)), none⟩])
              .ret)
             .skip)))
          (.reg [
            ⟨(some 39), .mv (.tmp 5), none⟩,
            ⟨(some 40), .bin .add (.tmp 39) (.val (.int .i64 1)), none⟩,
            ⟨(some 5), .mv (.tmp 40), none⟩]))))))
     (.seq
      (.reg [
        ⟨(some 4), .mv (.val (.bool true)), none⟩])
      .ret))))
def c_ridgewayref07_SamePath : AF := ⟨b_ridgewayref07_SamePath, 52, [.tmp 4]⟩
theorem p_ridgewayref07_SamePath : prepFunc Try.prog 28 = some c_ridgewayref07_SamePath ∧ hasBody Try.prog 28 = true := ⟨by kernel_rfl, by kernel_rfl⟩
def b_attr_Sane : AC :=
  (.seq
   (.reg [
     ⟨(some 1), .box 25 4 (.tmp 0), none⟩,
     ⟨(some 2), .mv (.val (.bool false)), none⟩])
   (.seq
    (.seq
     (.reg [
       ⟨(some 5), .off 1 (.tmp 1), none⟩,
       ⟨(some 6), .ld none (.tmp 5), none⟩,
       ⟨(some 7), .len (.tmp 6), none⟩,
       ⟨(some 8), .mv (.val (.int .i64 0)), none⟩])
     (.block 0
      (.loop
       (.seq
        (.reg [
          ⟨(some 9), .bin .lss (.tmp 8) (.tmp 7), none⟩])
        (.seq
         (.cond (.tmp 9)
          .skip
          (.exit 0))
         (.seq
          (.block 1
           (.seq
            (.reg [
              ⟨(some 10), .idxA 1 (.tmp 6) (.tmp 8), none⟩,
              ⟨(some 11), .ld none (.tmp 10), none⟩,
              ⟨(some 4), .mv (.tmp 11), none⟩])
            (.seq
             (.reg [
               ⟨(some 12), .mv (.tmp 4), none⟩,
               ⟨(some 13), .bin .lss (.tmp 12) (.val (.int .i64 1)), none⟩,
               ⟨(some 14), .mv (.tmp 13), none⟩,
               ⟨(some 15), .mv (.tmp 4), some (14, false)⟩,
               ⟨(some 16), .bin .gtr (.tmp 15) (.val (.int .i64 4294967295)), some (14, false)⟩,
               ⟨(some 17), .pick (.tmp 14) (.val (.bool true)) (.tmp 16), none⟩])
             (.cond (.tmp 17)
              (.seq
               (.reg [
                 ⟨(some 2), .mv (.val (.bool false)), none⟩])
               .ret)
              .skip))))
          (.reg [
            ⟨(some 18), .bin .add (.tmp 8) (.val (.int .i64 1)), none⟩,
            ⟨(some 8), .mv (.tmp 18), none⟩])))))))
    (.seq
     (.reg [
       ⟨(some 19), .off 0 (.tmp 1), none⟩,
       ⟨(some 20), .ld none (.tmp 19), none⟩,
       ⟨(some 21), .bin .geq (.tmp 20) (.val (.int .i64 0)), none⟩,
       ⟨(some 22), .mv (.tmp 21), none⟩,
       ⟨(some 23), .off 0 (.tmp 1), some (22, true)⟩,
       ⟨(some 24), .ld none (.tmp 23), some (22, true)⟩,
       ⟨(some 25), .bin .leq (.tmp 24) (.val (.int .i64 2)), some (22, true)⟩,
       ⟨(some 26), .pick (.tmp 22) (.tmp 25) (.val (.bool false)), none⟩,
       ⟨(some 27), .mv (.tmp 26), none⟩,
       ⟨(some 28), .off 1 (.tmp 1), some (27, true)⟩,
       ⟨(some 29), .ld none (.tmp 28), some (27, true)⟩,
       ⟨(some 30), .len (.tmp 29), some (27, true)⟩,
       ⟨(some 31), .bin .leq (.tmp 30) (.val (.int .i64 255)), some (27, true)⟩,
       ⟨(some 32), .pick (.tmp 27) (.tmp 31) (.val (.bool false)), none⟩,
       ⟨(some 33), .mv (.tmp 32), none⟩,
       ⟨(some 34), .off 2 (.tmp 1), some (33, true)⟩,
       ⟨(some 35), .ld none (.tmp 34), some (33, true)⟩,
       ⟨(some 36), .bin .geq (.tmp 35) (.val (.int .i64 1)), some (33, true)⟩,
       ⟨(some 37), .pick (.tmp 33) (.tmp 36) (.val (.bool false)), none⟩,
       ⟨(some 38), .mv (.tmp 37), none⟩,
       ⟨(some 39), .off 2 (.tmp 1), some (38, true)⟩,
       ⟨(some 40), .ld none (.tmp 39), some (38, true)⟩,
       ⟨(some 41), .bin .leq (.tmp 40) (.val (.int .i64 4294967295)), some (38, true)⟩,
       ⟨(some 42), .pick (.tmp 38) (.tmp 41) (.val (.bool false)), none⟩,
       ⟨(some 43), .mv (.tmp 42), none⟩,
       ⟨(some 44), .off 3 (.tmp 1), some (43, true)⟩,
       ⟨(some 45), .ld none (.tmp 44), some (43, true)⟩,
       ⟨(some 46), .bin .geq (.tmp 45) (.val (.int .i64 0)), some (43, true)⟩,
       ⟨(some 47), .pick (.tmp 43) (.tmp 46) (.val (.bool false)), none⟩,
       ⟨(some 48), .mv (.tmp 47), none⟩,
       ⟨(some 49), .off 3 (.tmp 1), some (48, true)⟩,
       ⟨(some 50), .ld none (.tmp 49), some (48, true)⟩,
       ⟨(some 51), .bin .leq (.tmp 50) (.val (.int .i64 4294967295)), some (48, true)⟩,
       ⟨(some 52), .pick (.tmp 48) (.tmp 51) (.val (.bool false)), none⟩,
       ⟨(some 2), .mv (.tmp 52), none⟩])
     .ret)))
def c_attr_Sane : AF := ⟨b_attr_Sane, 53, [.tmp 2]⟩
theorem p_attr_Sane : prepFunc Try.prog 29 = some c_attr_Sane ∧ hasBody Try.prog 29 = true := ⟨by kernel_rfl, by kernel_rfl⟩
def b_ridgewayref07_Sane : AC :=
  (.seq
   (.reg [
     ⟨(some 1), .box 25 4 (.tmp 0), none⟩,
     ⟨(some 2), .mv (.val (.bool false)), none⟩])
   (.seq
    (.seq
     (.reg [
       ⟨(some 3), .mv (.val (.int .i64 0)), none⟩])
     (.block 0
      (.loop
       (.seq
        (.seq
         (.reg [
           ⟨(some 4), .mv (.tmp 3), none⟩,
           ⟨(some 5), .off 1 (.tmp 1), none⟩,
           ⟨(some 6), .ld none (.tmp 5), none⟩,
           ⟨(some 7), .len (.tmp 6), none⟩,
           ⟨(some 8), .bin .lss (.tmp 4) (.tmp 7), none⟩])
         (.cond (.tmp 8)
          .skip
          (.exit 0)))
        (.seq
         (.block 1
          (.seq
           (.reg [
             ⟨(some 11), .off 1 (.tmp 1), none⟩,
             ⟨(some 12), .ld none (.tmp 11), none⟩,
             ⟨(some 13), .mv (.tmp 3), none⟩,
             ⟨(some 14), .idxA 1 (.tmp 12) (.tmp 13), none⟩,
             ⟨(some 15), .ld none (.tmp 14), none⟩,
             ⟨(some 16), .bin .lss (.tmp 15) (.val (.int .i64 1)), none⟩,
             ⟨(some 17), .mv (.tmp 16), none⟩,
             ⟨(some 18), .off 1 (.tmp 1), some (17, false)⟩,
             ⟨(some 19), .ld none (.tmp 18), some (17, false)⟩,
             ⟨(some 20), .mv (.tmp 3), some (17, false)⟩,
             ⟨(some 21), .idxA 1 (.tmp 19) (.tmp 20), some (17, false)⟩,
             ⟨(some 22), .ld none (.tmp 21), some (17, false)⟩,
             ⟨(some 23), .bin .gtr (.tmp 22) (.val (.int .i64 4294967295)), some (17, false)⟩,
             ⟨(some 24), .pick (.tmp 17) (.val (.bool true)) (.tmp 23), none⟩])
           (.cond (.tmp 24)
            (.seq
             (.reg [
               ⟨(some 2), .mv (.val (.bool false)), none⟩])
             .ret)
            .skip)))
         (.reg [
           ⟨(some 9), .mv (.tmp 3), none⟩,
           ⟨(some 10), .bin .add (.tmp 9) (.val (.int .i64 1)), none⟩,
           ⟨(some 3), .mv (.tmp 10), none⟩]))))))
    (.seq
     (.reg [
       ⟨(some 25), .off 0 (.tmp 1), none⟩,
       ⟨(some 26), .ld none (.tmp 25), none⟩,
       ⟨(some 27), .bin .geq (.tmp 26) (.val (.int .i64 0)), none⟩,
       ⟨(some 28), .mv (.tmp 27), none⟩,
       ⟨(some 29), .off 0 (.tmp 1), some (28, true)⟩,
       ⟨(some 30), .ld none (.tmp 29), some (28, true)⟩,
       ⟨(some 31), .bin .leq (.tmp 30) (.val (.int .i64 2)), some (28, true)⟩,
       ⟨(some 32), .pick (.tmp 28) (.tmp 31) (.val (.bool false)), none⟩,
       ⟨(some 33), .mv (.tmp 32), none⟩,
       ⟨(some 34), .off 1 (.tmp 1), some (33, true)⟩,
       ⟨(some 35), .ld none (.tmp 34), some (33, true)⟩,
       ⟨(some 36), .len (.tmp 35), some (33, true)⟩,
       ⟨(some 37), .bin .leq (.tmp 36) (.val (.int .i64 255)), some (33, true)⟩,
       ⟨(some 38), .pick (.tmp 33) (.tmp 37) (.val (.bool false)), none⟩,
       ⟨(some 39), .mv (.tmp 38), none⟩,
       ⟨(some 40), .off 2 (.tmp 1), some (39, true)⟩,
       ⟨(some 41), .ld none (.tmp 40), some (39, true)⟩,
       ⟨(some 42), .bin .geq (.tmp 41) (.val (.int .i64 1)), some (39, true)⟩,
       ⟨(some 43), .pick (.tmp 39) (.tmp 42) (.val (.bool false)), none⟩,
       ⟨(some 44), .mv (.tmp 43), none⟩,
       ⟨(some 45), .off 2 (.tmp 1), some (44, true)⟩,
       ⟨(some 46), .ld none (.tmp 45), some (44, true)⟩,
       ⟨(some 47), .bin .leq (.tmp 46) (.val (.int .i64 4294967295)), some (44, true)⟩,
       ⟨(some 48), .pick (.tmp 44) (.tmp 47) (.val (.bool false)), none⟩,
       ⟨(some 49), .mv (.tmp 48), none⟩,
       ⟨(some 50), .off 3 (.tmp 1), some (49, true)⟩,
       ⟨(some 51), .ld none (.tmp 50), some (49, true)⟩,
       ⟨(some 52), .bin .geq (.tmp 51) (.val (.int .i64 0)), some (49, true)⟩,
       ⟨(some 53), .pick (.tmp 49) (.tmp 52) (.val (.bool false)), none⟩,
       ⟨(some 54), .mv (.tmp 53), none⟩,
       ⟨(some 55), .off 3 (.tmp 1), some (54, true)⟩,
       ⟨(some 56), .ld none (.tmp 55), some (54, true)⟩,
       ⟨(some 57), .bin .leq (.tmp 56) (.val (.int .i64 4294967295)), some (54, true)⟩,
       ⟨(some 58), .pick (.tmp 54) (.tmp 57) (.val (.bool false)), none⟩,
       ⟨(some 2), .mv (.tmp 58), none⟩])
     .ret)))
def c_ridgewayref07_Sane : AF := ⟨b_ridgewayref07_Sane, 59, [.tmp 2]⟩
theorem p_ridgewayref07_Sane : prepFunc Try.prog 30 = some c_ridgewayref07_Sane ∧ hasBody Try.prog 30 = true := ⟨by kernel_rfl, by kernel_rfl⟩
def b_api_Route : AC :=
  (.seq
   (.reg [
     ⟨(some 4), .box 27 6 (.val (.agg [(.int .i64 0), (.int .i64 0), (.slice .full 0 []), (.int .i64 0), (.int .i64 0), (.int .i64 0)])), none⟩])
   (.seq
    (.seq
     (.reg [
       ⟨(some 7), .mv (.tmp 0), none⟩,
       ⟨(some 8), .len (.tmp 7), none⟩,
       ⟨(some 9), .bin .lss (.tmp 8) (.val (.int .i64 1)), none⟩])
     (.cond (.tmp 9)
      (.reg [
        ⟨(some 10), .bad, none⟩,
        ⟨none, .bad, none⟩])
      .skip))
    (.seq
     (.reg [
       ⟨(some 11), .mv (.tmp 0), none⟩,
       ⟨(some 12), .idxA 6 (.tmp 11) (.val (.int .i64 0)), none⟩,
       ⟨(some 13), .ld (some 6) (.tmp 12), none⟩,
       ⟨(some 5), .box 27 6 (.val (.agg [(.int .i64 0), (.int .i64 0), (.slice .full 0 []), (.int .i64 0), (.int .i64 0), (.int .i64 0)])), none⟩,
       ⟨none, .st 6 (.tmp 5) (.tmp 13), none⟩])
     (.seq
      (.seq
       (.reg [
         ⟨(some 6), .mv (.val (.int .i64 1)), none⟩])
       (.block 0
        (.loop
         (.seq
          (.seq
           (.reg [
             ⟨(some 14), .mv (.tmp 6), none⟩,
             ⟨(some 15), .mv (.tmp 0), none⟩,
             ⟨(some 16), .len (.tmp 15), none⟩,
             ⟨(some 17), .bin .lss (.tmp 14) (.tmp 16), none⟩])
           (.cond (.tmp 17)
            .skip
            (.exit 0)))
          (.seq
           (.block 1
            (.seq
             (.reg [
               ⟨(some 20), .mv (.tmp 1), none⟩,
               ⟨(some 21), .mv (.tmp 0), none⟩,
               ⟨(some 22), .mv (.tmp 6), none⟩,
               ⟨(some 23), .idxA 6 (.tmp 21) (.tmp 22), none⟩,
               ⟨(some 24), .ld (some 6) (.tmp 23), none⟩,
               ⟨(some 25), .ld (some 6) (.tmp 5), none⟩,
               ⟨(some 26), .callv (.tmp 20) [(.tmp 24), (.tmp 25)], none⟩,
               ⟨(some 27), .bin .lss (.tmp 26) (.val (.int .i64 0)), none⟩])
             (.cond (.tmp 27)
              (.reg [
                ⟨(some 28), .mv (.tmp 0), none⟩,
                ⟨(some 29), .mv (.tmp 6), none⟩,
                ⟨(some 30), .idxA 6 (.tmp 28) (.tmp 29), none⟩,
                ⟨(some 31), .ld (some 6) (.tmp 30), none⟩,
                ⟨none, .st 6 (.tmp 5) (.tmp 31), none⟩])
              .skip)))
           (.reg [
             ⟨(some 18), .mv (.tmp 6), none⟩,
             ⟨(some 19), .bin .add (.tmp 18) (.val (.int .i64 1)), none⟩,
             ⟨(some 6), .mv (.tmp 19), none⟩]))))))
      (.seq
       (.reg [
         ⟨(some 32), .ld (some 6) (.tmp 5), none⟩,
         ⟨none, .st 6 (.tmp 4) (.tmp 32), none⟩])
       .ret)))))
def c_api_Route : AF := ⟨b_api_Route, 33, [.cell 4 (some 6)]⟩
theorem p_api_Route : prepFunc Try.prog 31 = some c_api_Route ∧ hasBody Try.prog 31 = true := ⟨by kernel_rfl, by kernel_rfl⟩
def b_cmp_Compare_int : AC :=
  (.seq
   (.reg [
     ⟨(some 4), .mv (.val (.int .i64 0)), none⟩])
   (.seq
    (.reg [
      ⟨(some 7), .mv (.tmp 0), none⟩,
      ⟨(some 8), .call 34 [(.tmp 7)], none⟩,
      ⟨(some 5), .mv (.tmp 8), none⟩])
    (.seq
     (.reg [
       ⟨(some 9), .mv (.tmp 1), none⟩,
       ⟨(some 10), .call 34 [(.tmp 9)], none⟩,
       ⟨(some 6), .mv (.tmp 10), none⟩])
     (.seq
      (.seq
       (.reg [
         ⟨(some 11), .mv (.tmp 5), none⟩])
       (.cond (.tmp 11)
        (.seq
         (.seq
          (.reg [
            ⟨(some 12), .mv (.tmp 6), none⟩])
          (.cond (.tmp 12)
           (.seq
            (.reg [
              ⟨(some 4), .mv (.val (.int .i64 0)), none⟩])
            .ret)
           .skip))
         (.seq
          (.reg [
            ⟨(some 4), .mv (.val (.int .i64 (-1))), none⟩])
          .ret))
        .skip))
      (.seq
       (.seq
        (.reg [
          ⟨(some 13), .mv (.tmp 6), none⟩])
        (.cond (.tmp 13)
         (.seq
          (.reg [
            ⟨(some 4), .mv (.val (.int .i64 1)), none⟩])
          .ret)
         .skip))
       (.seq
        (.seq
         (.reg [
           ⟨(some 14), .mv (.tmp 0), none⟩,
           ⟨(some 15), .mv (.tmp 1), none⟩,
           ⟨(some 16), .bin .lss (.tmp 14) (.tmp 15), none⟩])
         (.cond (.tmp 16)
          (.seq
           (.reg [
             ⟨(some 4), .mv (.val (.int .i64 (-1))), none⟩])
           .ret)
          .skip))
        (.seq
         (.seq
          (.reg [
            ⟨(some 17), .mv (.tmp 0), none⟩,
            ⟨(some 18), .mv (.tmp 1), none⟩,
            ⟨(some 19), .bin .gtr (.tmp 17) (.tmp 18), none⟩])
          (.cond (.tmp 19)
           (.seq
            (.reg [
              ⟨(some 4), .mv (.val (.int .i64 1)), none⟩])
            .ret)
           .skip))
         (.seq
          (.reg [
            ⟨(some 4), .mv (.val (.int .i64 0)), none⟩])
          .ret))))))))
def c_cmp_Compare_int : AF := ⟨b_cmp_Compare_int, 20, [.tmp 4]⟩
theorem p_cmp_Compare_int : prepFunc Try.prog 32 = some c_cmp_Compare_int ∧ hasBody Try.prog 32 = true := ⟨by kernel_rfl, by kernel_rfl⟩
def b_slices_Compare___int_int : AC :=
  (.seq
   (.reg [
     ⟨(some 4), .mv (.val (.int .i64 0)), none⟩])
   (.seq
    (.seq
     (.reg [
       ⟨(some 9), .mv (.tmp 0), none⟩,
       ⟨(some 10), .len (.tmp 9), none⟩,
       ⟨(some 11), .mv (.val (.int .i64 0)), none⟩])
     (.block 0
      (.loop
       (.seq
        (.reg [
          ⟨(some 12), .bin .lss (.tmp 11) (.tmp 10), none⟩])
        (.seq
         (.cond (.tmp 12)
          .skip
          (.exit 0))
         (.seq
          (.block 1
           (.seq
            (.reg [
              ⟨(some 13), .mv (.tmp 11), none⟩,
              ⟨(some 14), .idxA 1 (.tmp 9) (.tmp 11), none⟩,
              ⟨(some 15), .ld none (.tmp 14), none⟩,
              ⟨(some 5), .mv (.tmp 13), none⟩,
              ⟨(some 6), .mv (.tmp 15), none⟩])
            (.seq
             (.seq
              (.reg [
                ⟨(some 16), .mv (.tmp 5), none⟩,
                ⟨(some 17), .mv (.tmp 1), none⟩,
                ⟨(some 18), .len (.tmp 17), none⟩,
                ⟨(some 19), .bin .geq (.tmp 16) (.tmp 18), none⟩])
              (.cond (.tmp 19)
               (.seq
                (.reg [
                  ⟨(some 4), .mv (.val (.int .i64 1)), none⟩])
                .ret)
               .skip))
             (.seq
              (.reg [
                ⟨(some 20), .mv (.tmp 1), none⟩,
                ⟨(some 21), .mv (.tmp 5), none⟩,
                ⟨(some 22), .idxA 1 (.tmp 20) (.tmp 21), none⟩,
                ⟨(some 23), .ld none (.tmp 22), none⟩,
                ⟨(some 7), .mv (.tmp 23), none⟩])
              (.seq
               (.reg [
                 ⟨(some 24), .mv (.tmp 6), none⟩,
                 ⟨(some 25), .mv (.tmp 7), none⟩,
                 ⟨(some 26), .call 32 [(.tmp 24), (.tmp 25)], none⟩,
                 ⟨(some 8), .mv (.tmp 26), none⟩])
               (.seq
                (.reg [
                  ⟨(some 27), .mv (.tmp 8), none⟩,
                  ⟨(some 28), .bin .neq (.tmp 27) (.val (.int .i64 0)), none⟩])
                (.cond (.tmp 28)
                 (.seq
                  (.reg [
                    ⟨(some 29), .mv (.tmp 8), none⟩,
                    ⟨(some 4), .mv (.tmp 29), none⟩])
                  .ret)
                 .skip)))))))
          (.reg [
            ⟨(some 30), .bin .add (.tmp 11) (.val (.int .i64 1)), none⟩,
            ⟨(some 11), .mv (.tmp 30), none⟩])))))))
    (.seq
     (.seq
      (.reg [
        ⟨(some 31), .mv (.tmp 0), none⟩,
        ⟨(some 32), .len (.tmp 31), none⟩,
        ⟨(some 33), .mv (.tmp 1), none⟩,
        ⟨(some 34), .len (.tmp 33), none⟩,
        ⟨(some 35), .bin .lss (.tmp 32) (.tmp 34), none⟩])
      (.cond (.tmp 35)
       (.seq
        (.reg [
          ⟨(some 4), .mv (.val (.int .i64 (-1))), none⟩])
        .ret)
       .skip))
     (.seq
      (.reg [
        ⟨(some 4), .mv (.val (.int .i64 0)), none⟩])
      .ret))))
def c_slices_Compare___int_int : AF := ⟨b_slices_Compare___int_int, 36, [.tmp 4]⟩
theorem p_slices_Compare___int_int : prepFunc Try.prog 33 = some c_slices_Compare___int_int ∧ hasBody Try.prog 33 = true := ⟨by kernel_rfl, by kernel_rfl⟩
def b_cmp_isNaN_int : AC :=
  (.seq
   (.reg [
     ⟨(some 2), .mv (.val (.bool false)), none⟩])
   (.seq
    (.reg [
      ⟨(some 3), .mv (.tmp 0), none⟩,
      ⟨(some 4), .mv (.tmp 0), none⟩,
      ⟨(some 5), .bin .neq (.tmp 3) (.tmp 4), none⟩,
      ⟨(some 2), .mv (.tmp 5), none⟩])
    .ret))
def c_cmp_isNaN_int : AF := ⟨b_cmp_isNaN_int, 6, [.tmp 2]⟩
theorem p_cmp_isNaN_int : prepFunc Try.prog 34 = some c_cmp_isNaN_int ∧ hasBody Try.prog 34 = true := ⟨by kernel_rfl, by kernel_rfl⟩
def tab : Tab := [(3, c_ridgewaylaw09_RouteIs), (4, c_ridgewaylaw09_RouteOrder), (5, c_ridgewaylaw09_RouteFirst), (6, c_ridgewaylaw09_RouteBest), (7, c_ridgewaylaw09_RouteLonger), (8, c_ridgewaylaw09_awake), (9, c_ridgewayref09_Few), (10, c_route_Compare), (11, c_ridgewayref09_Compare), (12, c_route_Same), (13, c_ridgewayref09_Same), (14, c_route_Sane), (15, c_ridgewayref09_Sane), (16, c_route_Best), (17, c_ridgewayref09_Best), (18, c_route_Own), (19, c_ridgewayref09_Own), (20, c_route_pair__pref), (21, c_route_pair__length), (22, c_route_pair__origin), (23, c_route_pair__as), (24, c_route_pair__hop), (25, c_route_pair__otc), (26, c_route_pair__from), (27, c_ridgewayref09_less), (28, c_ridgewayref07_SamePath), (29, c_attr_Sane), (30, c_ridgewayref07_Sane), (31, c_api_Route), (32, c_cmp_Compare_int), (33, c_slices_Compare___int_int), (34, c_cmp_isNaN_int)]
theorem tab_ok : Tab.Ok Try.prog tab := ⟨p_ridgewaylaw09_RouteIs, p_ridgewaylaw09_RouteOrder, p_ridgewaylaw09_RouteFirst, p_ridgewaylaw09_RouteBest, p_ridgewaylaw09_RouteLonger, p_ridgewaylaw09_awake, p_ridgewayref09_Few, p_route_Compare, p_ridgewayref09_Compare, p_route_Same, p_ridgewayref09_Same, p_route_Sane, p_ridgewayref09_Sane, p_route_Best, p_ridgewayref09_Best, p_route_Own, p_ridgewayref09_Own, p_route_pair__pref, p_route_pair__length, p_route_pair__origin, p_route_pair__as, p_route_pair__hop, p_route_pair__otc, p_route_pair__from, p_ridgewayref09_less, p_ridgewayref07_SamePath, p_attr_Sane, p_ridgewayref07_Sane, p_api_Route, p_cmp_Compare_int, p_slices_Compare___int_int, p_cmp_isNaN_int, trivial⟩
end Go.Proofs.Ytmlhbmlppgoklac
