package tests

import (
	"math"
	"slices"
	"strings"
	"testing"

	"loop.example/selvedge/impl"
)

// badFuels are not in 0..GrbMaxFuel.
var badFuels = []int{-1, -2, -60, math.MinInt, impl.GrbMaxFuel + 1, impl.GrbMaxFuel + 2, 100, math.MaxInt}

// wantNoBase asks for nothing.
func wantNoBase(t *testing.T, b impl.GrbBase, name string) {
	t.Helper()
	if len(b.List) != 0 || len(b.Proof) != 0 || b.Done {
		t.Fatalf("%s is %s", name, baseText(b))
	}
}

// someGiven are operators that may be given, in orders: of some a basis is done, of others it is not.
func someGiven(t *testing.T) map[int][][][]impl.PolTerm {
	return map[int][][][]impl.PolTerm{
		impl.OrdDeg: {ops(t, "d", "x"), ops(t, "d2+1", "d+x"), ops(t, "x2+1", "xy+1", "e"), ops(t, "y2d", "xe2"), ops(t, "x2y2", "yd2e2"), ops(t, "1")},
		impl.OrdLex: {ops(t, "e", "x2+y", "xy+1"), ops(t, "y2d2e2", "16x2ye2", "29y2e"), ops(t, "19x2e2", "48xyd2"), ops(t, "xd+y", "xd+y"), {loose(t, "d+x15"), op(t, "x+1")}},
		impl.OrdOut: {ops(t, "64ye2", "21xd2e2+29xy2"), ops(t, "xye", "xd+xy"), ops(t, "y", "x", "d"), ops(t, "3d+1")},
	}
}

// With one pair more at a time it is told which pair is looked at next, those that were added on the way included.
func TestGrbMakeAtEachFuel(t *testing.T) {
	for order, lists := range someGiven(t) {
		for _, given := range lists {
			whole := wantMade(t, order, given, impl.GrbMaxFuel)
			for fuel := range impl.GrbMaxFuel {
				made := wantMade(t, order, given, fuel)
				if len(made.looked) != min(fuel, len(whole.looked)) || !slices.Equal(made.looked, whole.looked[:len(made.looked)]) {
					t.Fatalf("with %d pairs there are %v", fuel, made.looked)
				}
			}
			for _, fuel := range badFuels {
				wantNoBase(t, impl.GrbMake(order, given, fuel), "GrbMake with wrong fuel")
			}
		}
	}
}

func TestGrbMakeWithJustEnough(t *testing.T) {
	for _, c := range []struct {
		order int
		given []string
		added int
		pairs int
	}{
		{impl.OrdDeg, []string{"1"}, 0, 0}, {impl.OrdLex, []string{"2xd+y+100"}, 0, 0}, {impl.OrdOut, []string{"d", "e"}, 0, 1}, {impl.OrdDeg, []string{"x", "x"}, 0, 1}, {impl.OrdDeg, []string{"x", "x", "x"}, 0, 3},
		{impl.OrdDeg, []string{"d", "x"}, 1, 3}, {impl.OrdDeg, []string{"d", "y", "x"}, 1, 6}, {impl.OrdDeg, []string{"d2+1", "d+x"}, 2, 6}, {impl.OrdDeg, []string{"x2+1", "xy+1"}, 2, 6},
		// The most that can be done: with LstMax there are more pairs than GrbMaxFuel.
		{impl.OrdDeg, []string{"y2d", "xe2"}, 9, 55}, {impl.OrdLex, []string{"y2d2e2", "16x2ye2", "29y2e"}, 8, 55}, {impl.OrdOut, []string{"64ye2", "21xd2e2+29xy2"}, 9, 55},
	} {
		given := ops(t, c.given...)
		made := wantMade(t, c.order, given, c.pairs)
		if made.why != itIsDone || len(made.looked) != c.pairs || len(made.from) != c.added {
			t.Fatalf("of %v %d are added, by %d pairs, and it ends because %s", c.given, len(made.from), len(made.looked), made.why)
		}
		// Nothing comes of the last pair: but for Done it is the same with one fewer.
		base := impl.GrbMake(c.order, given, c.pairs)
		if c.pairs > 0 {
			base.Done = false
			wantBase(t, impl.GrbMake(c.order, given, c.pairs-1), base, "GrbMake with one pair fewer")
		} else {
			wantNoBase(t, impl.GrbMake(c.order, given, c.pairs-1), "GrbMake with fuel below 0")
		}
	}
}

// With fuel 0 it has those that were given, each proved by itself; it is done just if it is one.
func TestGrbMakeWithoutFuel(t *testing.T) {
	one := op(t, "1")
	for _, order := range allOrders {
		base := impl.GrbMake(order, ops(t, "d"), 0)
		wantBase(t, base, impl.GrbBase{List: ops(t, "d"), Proof: [][][]impl.PolTerm{{one}}, Done: true}, "GrbMake of one")
		base = impl.GrbMake(order, ops(t, "d", "x"), 0)
		wantBase(t, base, impl.GrbBase{List: ops(t, "d", "x"), Proof: [][][]impl.PolTerm{{one, nil}, {nil, one}}}, "GrbMake of two")
		base = impl.GrbMake(order, ops(t, "d", "x", "d"), 0)
		wantBase(t, base, impl.GrbBase{List: ops(t, "d", "x", "d"), Proof: [][][]impl.PolTerm{{one, nil, nil}, {nil, one, nil}, {nil, nil, one}}}, "GrbMake of three")
	}
}

func TestGrbMakeOfSoMany(t *testing.T) {
	for n := range 2 * impl.LstMax {
		for _, p := range ops(t, "1", "d", "2xd+y+100") {
			for _, order := range allOrders {
				for _, fuel := range []int{0, 3, impl.GrbMaxFuel} {
					if n >= 1 && n <= impl.GrbMaxGen {
						wantMade(t, order, times(n, p), fuel)
					} else {
						wantNoBase(t, impl.GrbMake(order, times(n, p), fuel), "GrbMake of none, or of too many")
					}
				}
			}
		}
	}
	wantNoBase(t, impl.GrbMake(impl.OrdDeg, [][]impl.PolTerm{}, 1), "GrbMake of the empty list")
	if base := impl.GrbMake(impl.OrdDeg, ops(t, "d", "x", "y"), 60); len(base.List) != 4 || !base.Done {
		t.Fatalf("GrbMake of three is %s", baseText(base))
	}
}

func TestGrbMakeAtLstMax(t *testing.T) {
	for _, c := range []struct {
		order int
		given [][]impl.PolTerm
		pairs int
		why   string
	}{
		{impl.OrdDeg, ops(t, "x2y2", "yd2e2"), 16, tooLong}, {impl.OrdLex, ops(t, "14xyd2e", "49x2yde+86xyd"), 21, tooLong}, {impl.OrdOut, ops(t, "x2ye2", "y2d2"), 16, tooLong},
		{impl.OrdOut, ops(t, "15x2d2e2+11y2", "67y2de"), 38, tooLong}, {impl.OrdDeg, ops(t, "19xy", "94yde+9de+44yd", "15xye+80de"), 23, tooLong},
		// Nothing more is wanted of the pairs that are allowed.
		{impl.OrdDeg, ops(t, "x2y", "xyd2e2"), 60, noFuel}, {impl.OrdLex, ops(t, "19x2e2", "48xyd2"), 60, noFuel}, {impl.OrdOut, ops(t, "18x2yde2", "80y2d2"), 60, noFuel},
	} {
		made := wantMade(t, c.order, c.given, impl.GrbMaxFuel)
		if made.why != c.why || len(made.looked) != c.pairs || len(made.list) != impl.LstMax {
			t.Fatalf("%s comes to %d operators, by %d pairs, and ends because %s", listText(c.given), len(made.list), len(made.looked), made.why)
		}
		base := impl.GrbMake(c.order, c.given, impl.GrbMaxFuel)
		if base.Done || !impl.GrbProves(base, c.given) {
			t.Fatalf("GrbMake that comes to LstMax is %s", baseText(base))
		}
	}
}

// A pair may be too much: the first one, one behind others, or one behind one that was added.
func TestGrbMakeWithAPairTooMuch(t *testing.T) {
	for _, c := range []struct {
		given []string
		pairs int
		added []string
		why   string
	}{
		{[]string{"d+x15", "x+1"}, 1, nil, pairTooMuch}, {[]string{"x+1", "d+x15"}, 1, nil, pairTooMuch},
		{[]string{"y", "d+x15", "x+1"}, 3, nil, pairTooMuch},
		{[]string{"e", "y", "d+y15"}, 3, []string{"100"}, pairTooMuch}, {[]string{"e", "y", "d+y14"}, 6, []string{"100"}, itIsDone},
		// The pair is not too much, its division is.
		{[]string{"x+y15", "xd+xy"}, 1, nil, divTooMuch}, {[]string{"e", "x+y15", "xd+xy"}, 3, []string{"86y14"}, divTooMuch},
	} {
		given := looseOps(t, c.given...)
		made := wantMade(t, impl.OrdLex, given, impl.GrbMaxFuel)
		if made.why != c.why || len(made.looked) != c.pairs || !sameList(made.list[len(given):], ops(t, c.added...)) {
			t.Fatalf("%v comes to %s, by %d pairs, and ends because %s", c.given, listText(made.list), len(made.looked), made.why)
		}
	}
}

// The division of a pair takes just RedFuel steps, or one more.
func TestGrbMakeWithADivisionTooMuch(t *testing.T) {
	for _, terms := range []int{impl.RedFuel - 1, impl.RedFuel, impl.RedFuel + 1} {
		a := together(map[impl.MonMon]int{{X: 1, D: 15, E: 15}: 1}, rungs(terms, impl.MonMon{}))
		b := op(t, "yd15e15")
		for _, given := range [][][]impl.PolTerm{{a, b}, {b, a}, {b, b, a}} {
			// All pairs of those that were given: the one that was added takes what is left of the last one in one step.
			pairs := len(given) * (len(given) - 1) / 2
			made := wantMade(t, impl.OrdDeg, given, pairs)
			if terms > impl.RedFuel && (made.why != divTooMuch || len(made.from) != 0 || len(made.looked) != len(given)-1) {
				t.Fatalf("a division of %d steps comes to %d operators and ends because %s", terms, len(made.list), made.why)
			}
			if terms <= impl.RedFuel && (made.why != noFuel || len(made.from) != 1 || len(made.list[len(given)]) != terms) {
				t.Fatalf("a division of %d steps comes to %d operators and ends because %s", terms, len(made.list), made.why)
			}
		}
	}
}

// The operators are small, but the proof of the one that comes of the last pair has a product past MonMax: with its first factor, with its second one, or with what is taken.
func TestGrbMakeWithAProofPastMonMax(t *testing.T) {
	for _, c := range []struct {
		given []string // with e14, or y14, for ? it goes on
		added []string
		pair  [2]int
		past  int
	}{
		{[]string{"d", "yd2+y?d+100e", "d2e+100y"}, []string{"e", "y"}, [2]int{3, 4}, 0},
		{[]string{"d", "d2e+de?+100y", "e"}, []string{"y"}, [2]int{2, 3}, 1},
		{[]string{"d", "d2e+de?+100y", "d2+100e"}, []string{"y", "e"}, [2]int{2, 3}, 5},
	} {
		for _, count := range []string{"14", "15"} {
			var given [][]impl.PolTerm
			for _, text := range c.given {
				given = append(given, loose(t, strings.ReplaceAll(text, "?", count)))
			}
			made := wantMade(t, impl.OrdLex, given, impl.GrbMaxFuel)
			added := made.list[3:]
			if count == "15" && (made.why != proofTooMuch || !slices.Equal(made.last.past, []int{c.past}) || made.looked[len(made.looked)-1] != c.pair || !sameList(added, ops(t, c.added...))) {
				t.Fatalf("%v comes to %s and ends because %s, with %v past MonMax", c.given, listText(added), made.why, made.last.past)
			}
			if count == "14" && (made.why != itIsDone || made.from[len(made.from)-1] != c.pair || !sameList(added[:len(added)-1], ops(t, c.added...))) {
				t.Fatalf("%v comes to %s and ends because %s", c.given, listText(added), made.why)
			}
			if base := impl.GrbMake(impl.OrdLex, given, impl.GrbMaxFuel); base.Done != (count == "14") || !impl.GrbProves(base, given) {
				t.Fatalf("GrbMake is %s", baseText(base))
			}
		}
	}
}

// tail are so many terms with `d` and `x`, so many with `d` alone; the first ones are xyd, xy2d and so on.
func tail(with int, without int) map[impl.MonMon]int {
	numbers := map[impl.MonMon]int{}
	for i := range with {
		numbers[impl.MonMon{X: 1 + i/8%8, Y: 1 + i%8, D: 1, E: i / 64}] = 1
	}
	for i := range without {
		numbers[impl.MonMon{Y: i % 8, D: 1, E: i / 8}] = 1
	}
	return numbers
}

// The proof of x is d and many more; so that of 100, which is x times d less d times x, has a product of many terms, and a sum of one more. What is taken then brings some of these away again.
func TestGrbMakeWithAProofPastPolMax(t *testing.T) {
	for _, c := range []struct {
		with, without int
		away          string
		product, sum  int
		last          int // terms of the proof
	}{
		{150, 98, "", 399, 400, 400}, {150, 99, "", 400, 401, 401}, {150, 100, "", 401, 402, 402}, {199, 0, "", 399, 400, 400}, {200, 0, "", 401, 402, 402},
		{150, 98, "+100y", 399, 400, 399}, {150, 99, "+100y", 400, 401, 400}, {150, 99, "+100y3+100y2+100y", 400, 401, 398}, {150, 100, "+100y3+100y2+100y", 401, 402, 399}, {150, 97, "+100y2", 398, 399, 398},
	} {
		rest := loose(t, "100x"+c.away)
		given := [][]impl.PolTerm{op(t, "d"), together(map[impl.MonMon]int{{D: 2}: 1}, tail(c.with, c.without), numbersOf(rest))}
		made := plainMake(impl.OrdLex, given, 2)
		if made.last.product != c.product || made.last.sum != c.sum || len(made.last.past) > 0 {
			t.Fatalf("a proof has a product of %d terms, and a sum of %d", made.last.product, made.last.sum)
		}
		made = wantMade(t, impl.OrdLex, given, impl.GrbMaxFuel)
		if c.sum > impl.PolMax && (made.why != proofTooMuch || len(made.list) != 3) {
			t.Fatalf("a proof with a sum of %d terms ends because %s", c.sum, made.why)
		}
		if c.sum <= impl.PolMax && (made.why != itIsDone || len(made.list) != 4 || len(made.proof[3][0]) != c.last) {
			t.Fatalf("a proof with a sum of %d terms, with %s, ends because %s", c.sum, listText(made.list[2:]), made.why)
		}
	}
}
