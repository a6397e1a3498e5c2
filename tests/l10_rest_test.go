package tests

import (
	"math"
	"slices"
	"testing"

	"loop.example/selvedge/impl"
)

// without rolls an operator in which neither `x` nor `d` stands, not 0.
func (d *dice) without(terms int, most int) []impl.PolTerm {
	numbers := map[impl.MonMon]int{}
	for range 1 + d.roll(terms) {
		numbers[impl.MonMon{Y: d.roll(most + 1), E: d.roll(most + 1)}] = 1 + d.roll(impl.FldP-1)
	}
	return fromNumbers(numbers)
}

// P53: if its greatest monomial in OrdOut has neither of both, no term has.
func TestIdlRest(t *testing.T) {
	in, out := 0, 0
	tries(t, 53, 0, func(d *dice, most int) bool {
		list := d.list(5, 3, most)
		for range d.roll(6) {
			list = slices.Insert(list, d.roll(len(list)+1), d.without(3, most))
		}
		var want [][]impl.PolTerm
		for _, p := range list {
			if slices.ContainsFunc(p, func(term impl.PolTerm) bool { return term.M.X > 0 || term.M.D > 0 }) {
				out++
				continue
			}
			in++
			want = append(want, p)
		}
		wantLists(t, impl.IdlRest(list), true, want, true, "IdlRest of "+listText(list))
		return true
	})
	if in < 1000 || out < 1000 {
		t.Fatalf("%d stay, %d do not", in, out)
	}
}

func TestIdlRestByHand(t *testing.T) {
	for _, c := range []struct{ list, want []string }{
		{nil, nil}, {[]string{"1"}, []string{"1"}}, {[]string{"7"}, []string{"7"}}, {[]string{"y"}, []string{"y"}}, {[]string{"e"}, []string{"e"}}, {[]string{"x"}, nil}, {[]string{"d"}, nil}, {[]string{"xd"}, nil},
		{[]string{"xe", "ye+y"}, []string{"ye+y"}}, {[]string{"xy", "yd", "ye"}, []string{"ye"}}, {[]string{"x15", "y15", "d15", "e15"}, []string{"y15", "e15"}}, {[]string{"x", "d", "xd"}, nil},
		// The greatest monomial in OrdDeg, or in OrdLex, may have neither of both, and still one stands in it.
		{[]string{"y3+x"}, nil}, {[]string{"y3+d"}, nil}, {[]string{"ye+x"}, nil}, {[]string{"e+x"}, nil}, {[]string{"y9e9+x", "y9e9+d", "y9e9+1"}, []string{"y9e9+1"}},
		// In their order, as often as they are there, and with their own numbers.
		{[]string{"e", "y", "e", "d", "y"}, []string{"e", "y", "e", "y"}}, {[]string{"5ye+3y+2", "2d", "y", "5ye+3y+2"}, []string{"5ye+3y+2", "y", "5ye+3y+2"}}, {[]string{"y2", "x", "y", "1"}, []string{"y2", "y", "1"}},
	} {
		wantLists(t, impl.IdlRest(looseOps(t, c.list...)), true, looseOps(t, c.want...), true, "IdlRest of "+listText(looseOps(t, c.list...)))
	}
	wantLists(t, impl.IdlRest([][]impl.PolTerm{}), true, nil, true, "IdlRest of the empty list")
	for n := range 2 * impl.LstMax {
		want := times(n, op(t, "2y+1"))
		if n > impl.LstMax {
			want = nil
		}
		wantLists(t, impl.IdlRest(times(n, op(t, "2y+1"))), true, want, true, "IdlRest of so many")
	}
	full := behind(0, impl.PolMax)
	wantLists(t, impl.IdlRest([][]impl.PolTerm{full, op(t, "y")}), true, ops(t, "y"), true, "IdlRest with PolMax terms")
	most := impl.MonMax + 1
	square := map[impl.MonMon]int{}
	for i := range most * most {
		square[impl.MonMon{Y: i % most, E: i / most}] = 1 + i%100
	}
	wantLists(t, impl.IdlRest([][]impl.PolTerm{fromNumbers(square)}), true, [][]impl.PolTerm{fromNumbers(square)}, true, "IdlRest of all that may stay")
}

// upTo are the numbers 0 to side.
func upTo(side int) []int {
	var counts []int
	for count := range side + 1 {
		counts = append(counts, count)
	}
	return counts
}

// plainFlat counts the monomials that are not divided, one by one.
func plainFlat(order int, list [][]impl.PolTerm, side int) (int, bool) {
	count, flat := 0, true
	for _, m := range gridMons(upTo(side)...) {
		if slices.ContainsFunc(list, func(p []impl.PolTerm) bool { return plainDivides(plainLead(order, numbersOf(p)), m) }) {
			continue
		}
		count++
		if m.X == side || m.Y == side || m.D == side || m.E == side {
			flat = false
		}
	}
	return count, flat
}

// wantFlat asks IdlFlat for what it is without the program, and tells that.
func wantFlat(t *testing.T, order int, list [][]impl.PolTerm, side int) (int, bool) {
	t.Helper()
	want, wantFlat := plainFlat(order, list, side)
	count, flat := impl.IdlFlat(order, list, side)
	if count != want || flat != wantFlat {
		t.Fatalf("IdlFlat(%d) of %s with side %d is %d and %v, not %d and %v", order, listText(list), side, count, flat, want, wantFlat)
	}
	return count, flat
}

func TestIdlFlatIsWhatIsCounted(t *testing.T) {
	flats := map[int]int{}
	steep := 0
	d := dice(54)
	for round := range 500 {
		order, side := allOrders[d.roll(3)], d.roll(7)
		list := d.list(impl.LstMax-4, 2, []int{2, 3, 5, 7}[round%4])
		// With a power of each of the four nothing goes on for ever.
		for place := range 4 {
			if d.roll(9) > 0 {
				list = append(list, impl.PolOf(3, atPlace(impl.MonMon{}, place, 1+d.roll(side+1))))
			}
		}
		if count, flat := wantFlat(t, order, list, side); flat && count > 0 {
			flats[order]++
		} else if !flat {
			steep++
		}
	}
	for _, order := range allOrders {
		if flats[order] < 15 || steep < 100 {
			t.Fatalf("%d are flat in order %d, %d are not at all", flats[order], order, steep)
		}
	}
}

func TestIdlFlatByHand(t *testing.T) {
	for _, c := range []struct {
		orders []int
		list   []string
		counts [7]int // for each side
		from   int    // the least side at which it is flat; 7, if none is
	}{
		// Of no list all, of a number none.
		{allOrders, nil, [7]int{1, 16, 81, 256, 625, 1296, 2401}, 7}, {allOrders, []string{"1"}, [7]int{}, 0}, {allOrders, []string{"9", "x", "d"}, [7]int{}, 0}, {allOrders, []string{"x2", "y", "100"}, [7]int{}, 0},
		// Each of the four goes on for ever, unless a power of it is there.
		{allOrders, []string{"x", "y", "d", "e"}, [7]int{1, 1, 1, 1, 1, 1, 1}, 1},
		{allOrders, []string{"y", "d", "e"}, [7]int{1, 2, 3, 4, 5, 6, 7}, 7}, {allOrders, []string{"x", "d", "e"}, [7]int{1, 2, 3, 4, 5, 6, 7}, 7}, {allOrders, []string{"x", "y", "e"}, [7]int{1, 2, 3, 4, 5, 6, 7}, 7}, {allOrders, []string{"x", "y", "d"}, [7]int{1, 2, 3, 4, 5, 6, 7}, 7},
		{allOrders, []string{"x", "y", "d2", "e"}, [7]int{1, 2, 2, 2, 2, 2, 2}, 2}, {allOrders, []string{"x3", "y", "d", "e"}, [7]int{1, 2, 3, 3, 3, 3, 3}, 3}, {allOrders, []string{"x", "y6", "d", "e"}, [7]int{1, 2, 3, 4, 5, 6, 6}, 6}, {allOrders, []string{"x", "y", "d", "e7"}, [7]int{1, 2, 3, 4, 5, 6, 7}, 7}, {allOrders, []string{"x", "y", "d", "e15"}, [7]int{1, 2, 3, 4, 5, 6, 7}, 7},
		{allOrders, []string{"x2", "y2", "d2", "e2"}, [7]int{1, 16, 16, 16, 16, 16, 16}, 2}, {allOrders, []string{"x2", "y3", "d4", "e"}, [7]int{1, 8, 18, 24, 24, 24, 24}, 4},
		// Products of several take corners away.
		{allOrders, []string{"x2", "xy", "y2", "d", "e"}, [7]int{1, 3, 3, 3, 3, 3, 3}, 2}, {allOrders, []string{"xd", "ye"}, [7]int{1, 9, 25, 49, 81, 121, 169}, 7}, {allOrders, []string{"xyde"}, [7]int{1, 15, 65, 175, 369, 671, 1105}, 7},
		// Only the greatest monomial counts, and which one that is hangs on the order.
		{[]int{impl.OrdDeg, impl.OrdOut}, []string{"x2+d", "y", "e", "d2"}, [7]int{1, 4, 4, 4, 4, 4, 4}, 2}, {[]int{impl.OrdLex}, []string{"x2+d", "y", "e", "d2"}, [7]int{1, 2, 3, 4, 5, 6, 7}, 7},
		{[]int{impl.OrdOut}, []string{"x+e", "y", "d", "e3"}, [7]int{1, 2, 3, 3, 3, 3, 3}, 3}, {[]int{impl.OrdDeg, impl.OrdLex}, []string{"x+e", "y", "d", "e3"}, [7]int{1, 2, 3, 4, 5, 6, 7}, 7},
		// The same one twice, and one that is not needed, change nothing.
		{allOrders, []string{"x", "5x", "x4+1", "y", "d", "e2", "e2+e"}, [7]int{1, 2, 2, 2, 2, 2, 2}, 2},
	} {
		for _, order := range c.orders {
			for side, want := range c.counts {
				count, flat := wantFlat(t, order, looseOps(t, c.list...), side)
				if count != want || flat != (side >= c.from) {
					t.Fatalf("IdlFlat(%d) of %v with side %d is %d and %v", order, c.list, side, count, flat)
				}
			}
		}
	}
	if count, flat := impl.IdlFlat(impl.OrdDeg, [][]impl.PolTerm{}, 2); count != 81 || flat {
		t.Fatalf("IdlFlat of the empty list is %d and %v", count, flat)
	}
}

// P54
func TestIdlFlatWithMore(t *testing.T) {
	fewer, d := 0, dice(540)
	for range 200 {
		order, side := allOrders[d.roll(3)], d.roll(7)
		list := d.list(impl.LstMax, 3, 2)
		last, flat := impl.IdlFlat(order, nil, side)
		wantInt(t, last, (side+1)*(side+1)*(side+1)*(side+1), "all of a side", side)
		for n := range list {
			count, now := impl.IdlFlat(order, list[:n+1], side)
			if count > last || flat && !now {
				t.Fatalf("IdlFlat(%d) of %s with side %d counts %d, of one fewer %d", order, listText(list[:n+1]), side, count, last)
			}
			if count < last {
				fewer++
			}
			last, flat = count, now
		}
		one := slices.Clone(list[:min(len(list), impl.LstMax-1)])
		one = slices.Insert(one, d.roll(len(one)+1), op(t, "1"))
		if count, flat := impl.IdlFlat(order, one, side); count != 0 || !flat {
			t.Fatalf("IdlFlat with 1 is %d and %v", count, flat)
		}
	}
	if fewer < 200 {
		t.Fatalf("only %d times there are fewer", fewer)
	}
}

// badSides are not in 0..6.
var badSides = []int{-1, -2, -7, math.MinInt, 7, 8, 15, 16, 100, math.MaxInt}

func TestIdlFlatWithNoSide(t *testing.T) {
	for _, side := range badSides {
		for _, order := range append([]int{0}, allOrders...) {
			for _, list := range [][][]impl.PolTerm{nil, {}, ops(t, "1"), ops(t, "x", "y", "d", "e"), ops(t, "xd+1"), ops(t, "x", "0"), times(impl.LstMax, op(t, "x"))} {
				if count, flat := impl.IdlFlat(order, list, side); count != 0 || flat {
					t.Fatalf("IdlFlat(%d) of %s with side %d is %d and %v", order, listText(list), side, count, flat)
				}
			}
		}
	}
}
