package tests

import (
	"slices"
	"testing"

	"loop.example/selvedge/impl"
)

// wantIn asks GrbIn for what it is without the program, and tells that.
func wantIn(t *testing.T, order int, list [][]impl.PolTerm, p []impl.PolTerm) (bool, bool) {
	t.Helper()
	div := plainDivide(order, p, list)
	want := div.ok() && len(div.left) == 0
	in, ok := impl.GrbIn(order, list, p)
	if ok != div.ok() || in != want {
		t.Fatalf("GrbIn(%d) of %s by %s is %v and %v, not %v and %v", order, plainText(p), listText(list), in, ok, want, div.ok())
	}
	return in, ok
}

func TestGrbInIsWhatItsDivisionSays(t *testing.T) {
	in, out, tooMuch := 0, 0, 0
	count := func(made bool, ok bool) {
		switch {
		case made:
			in++
		case ok:
			out++
		default:
			tooMuch++
		}
	}
	tries(t, 100, 1200, func(d *dice, most int) bool {
		order, p, list := d.divided(most)
		count(wantIn(t, order, list, p))
		if len(list) == 0 {
			return true
		}
		made, ok := impl.WylMul(d.pol(3, most), list[d.roll(len(list))])
		count(wantIn(t, order, list, whenever(ok, made)))
		return true
	})
	if in < 300 || out < 700 || tooMuch < 15 {
		t.Fatalf("%d are in, %d are not, %d are too much", in, out, tooMuch)
	}
}

func TestGrbInByHand(t *testing.T) {
	for _, c := range []struct {
		orders []int
		list   []string
		p      string
		want   bool
	}{
		// 0 is made of anything, of nothing too; of nothing only 0 is.
		{allOrders, nil, "0", true}, {allOrders, []string{"x", "y"}, "0", true}, {allOrders, []string{"1"}, "0", true}, {allOrders, nil, "1", false}, {allOrders, nil, "x", false}, {allOrders, nil, "2xd+y+100", false},
		{allOrders, []string{"d"}, "d", true}, {allOrders, []string{"d"}, "5xd2+yd", true}, {allOrders, []string{"d"}, "d+1", false}, {allOrders, []string{"d"}, "x", false}, {allOrders, []string{"7"}, "2xd+y+100", true},
		// The list stands on the right: x times d is, d times x is not.
		{allOrders, []string{"d"}, "xd", true}, {allOrders, []string{"d"}, "xd+1", false}, {allOrders, []string{"x"}, "xd+1", true}, {allOrders, []string{"x"}, "xd", false},
		// By several; the last one takes what is left.
		{allOrders, []string{"d+1", "x"}, "xd2+x", true}, {allOrders, []string{"d+1", "x"}, "xd2+y", false}, {allOrders, []string{"y2", "xy", "x2"}, "x2y+xy2+y3", true}, {allOrders, []string{"y2", "xy", "x2"}, "x2y+xy2+y", false},
		// What is made of a list that is no basis may not be found to be, until all is there that it takes.
		{allOrders, []string{"d", "x"}, "1", false}, {allOrders, []string{"d", "x"}, "xd+1", false}, {allOrders, []string{"x", "d"}, "xd+1", true}, {allOrders, []string{"d", "x", "100"}, "xd+1", true}, {allOrders, []string{"d", "x", "100"}, "1", true},
		// The order tells which term is the greatest.
		{[]int{impl.OrdDeg, impl.OrdOut}, []string{"x2+d"}, "x2y+yd", true}, {[]int{impl.OrdDeg, impl.OrdOut}, []string{"x2+d", "d2"}, "d2", true}, {[]int{impl.OrdLex}, []string{"d+x2", "x3"}, "xd", true}, {[]int{impl.OrdDeg, impl.OrdOut}, []string{"x2+d", "x3"}, "xd", false},
	} {
		for _, order := range c.orders {
			in, ok := wantIn(t, order, looseOps(t, c.list...), loose(t, c.p))
			if in != c.want || !ok {
				t.Fatalf("GrbIn(%d) of %s by %v is %v and %v", order, c.p, c.list, in, ok)
			}
		}
	}
}

// Where the division is too much nothing is said, also of what is made of the list.
func TestGrbInTooMuch(t *testing.T) {
	for _, steps := range []int{impl.RedFuel, impl.RedFuel + 1} {
		for _, order := range allOrders {
			for _, list := range [][][]impl.PolTerm{nil, ops(t, "e"), ops(t, "1"), ops(t, "d", "7")} {
				if in, ok := wantIn(t, order, list, manyTerms(steps)); ok != (steps <= impl.RedFuel) || in != (ok && len(list) > 0 && list[0][0].M.E == 0) {
					t.Fatalf("GrbIn of %d terms by %s is %v and %v", steps, listText(list), in, ok)
				}
			}
			if in, ok := wantIn(t, order, ops(t, "d+e", "e", "1"), pile(steps)); ok != (steps <= impl.RedFuel) || in != ok {
				t.Fatalf("GrbIn in %d steps is %v and %v", steps, in, ok)
			}
		}
	}
	for _, c := range []struct {
		list    []string
		p       string
		in, yes bool
	}{
		{[]string{"x+y15"}, "x+y15", true, true}, {[]string{"x+y15"}, "x", false, true}, {[]string{"x+y15"}, "xy", false, false}, {[]string{"x+y15", "1"}, "xy", false, false}, {[]string{"1", "x+y15"}, "xy", true, true}, {[]string{"x+y15"}, "0", true, true},
		{[]string{"x+y14"}, "xy+y15", true, true}, {[]string{"x+y14"}, "xy", false, true}, {[]string{"d", "x+y15"}, "d2+xy", false, false},
	} {
		if in, ok := wantIn(t, impl.OrdLex, looseOps(t, c.list...), loose(t, c.p)); in != c.in || ok != c.yes {
			t.Fatalf("GrbIn of %s by %v is %v and %v", c.p, c.list, in, ok)
		}
	}
	full := manyTerms(impl.PolMax)
	for _, order := range allOrders {
		if in, ok := wantIn(t, order, [][]impl.PolTerm{full}, full); !in || !ok {
			t.Fatal("GrbIn of PolMax terms by the same is false")
		}
	}
}

// manyBases rolls bases that are ok, the lists of those that are done, and the dice for what is asked of them.
func manyBases(seed dice, rounds int, try func(d *dice, order int, list [][]impl.PolTerm)) {
	d := seed + 1000
	manyGiven(seed, rounds, func(order int, given [][]impl.PolTerm) {
		base := impl.GrbMake(order, given, impl.GrbMaxFuel)
		if base.Done && impl.GrbOk(order, base.List) {
			try(&d, order, base.List)
		}
	})
}

// inIt rolls what is made of a list: a sum of two products, each with one of the list on the right.
func (d *dice) inIt(list [][]impl.PolTerm, most int) ([]impl.PolTerm, bool) {
	var a all
	first := a.of(impl.WylMul(d.pol(3, most), list[d.roll(len(list))]))
	second := a.of(impl.WylMul(d.pol(3, most), list[d.roll(len(list))]))
	sum := a.of(impl.PolAdd(first, second))
	return sum, !a.no
}

// P8
func TestGrbInOfWhatIsMade(t *testing.T) {
	held := 0
	manyBases(8, 600, func(d *dice, order int, list [][]impl.PolTerm) {
		for _, most := range []int{0, 1, 2, 4} {
			p, ok := d.inIt(list, most)
			if ok && len(p) > 0 {
				held += wantEachIn(t, order, list, [][]impl.PolTerm{p})
			}
		}
	})
	if held < 1000 {
		t.Fatalf("only %d were true", held)
	}
}

// P47
func TestGrbInOfDifferences(t *testing.T) {
	same, other := 0, 0
	manyBases(47, 600, func(d *dice, order int, list [][]impl.PolTerm) {
		for round := range 6 {
			var a all
			p, q := d.pol(4, 2), d.pol(4, 2)
			if round%2 == 0 {
				made, ok := d.inIt(list, 1)
				a.no = !ok
				q = a.of(impl.PolAdd(p, made))
			}
			_, leftP, okP := impl.RedAll(order, p, list)
			_, leftQ, okQ := impl.RedAll(order, q, list)
			rest := a.of(impl.PolSub(p, q))
			in, ok := impl.GrbIn(order, list, rest)
			if a.no || !okP || !okQ || !ok {
				continue
			}
			if in != impl.PolSame(leftP, leftQ) {
				t.Fatalf("GrbIn(%d) of %s by %s is %v; %s and %s are left", order, plainText(rest), listText(list), in, plainText(leftP), plainText(leftQ))
			}
			if in {
				same++
			} else {
				other++
			}
		}
	})
	if same < 500 || other < 300 {
		t.Fatalf("%d leave the same, %d do not", same, other)
	}
}

// P50
func TestGrbInOfAnythingTimes(t *testing.T) {
	in, out := 0, 0
	manyBases(50, 600, func(d *dice, order int, list [][]impl.PolTerm) {
		for round := range 4 {
			p, ok := d.inIt(list, 1)
			if round == 3 {
				p, ok = d.pol(3, 2), true
			}
			made, sure := impl.GrbIn(order, list, p)
			if !ok || !sure {
				continue
			}
			if !made {
				out++
				continue
			}
			if product, ok := impl.WylMul(d.pol(3, 2), p); ok {
				in += wantEachIn(t, order, list, [][]impl.PolTerm{product})
			}
		}
	})
	if in < 500 || out < 50 {
		t.Fatalf("%d are in, %d are not", in, out)
	}
}

// P49
func TestGrbLeastWithANumber(t *testing.T) {
	ones, ins := 0, 0
	tries(t, 49, 0, func(d *dice, most int) bool {
		order, list := allOrders[d.roll(3)], d.list(impl.LstMax-1, 4, most)
		number := impl.PolOf(1+d.roll(impl.FldP-1), impl.MonMon{})
		list = slices.Insert(list, d.roll(len(list)+1), number)
		if least, ok := impl.GrbLeast(order, list); ok {
			ones++
			wantLists(t, least, ok, ops(t, "1"), true, "GrbLeast of "+listText(list))
		}
		ins += wantEachIn(t, order, list, [][]impl.PolTerm{d.pol(6, most), d.pol(1, 15), nil, number})
		return true
	})
	if ones < 1000 || ins < 3000 {
		t.Fatalf("%d were 1 alone, %d were in", ones, ins)
	}
}

// plainIdeal is the least basis of what is made of operators, and why a basis is not done.
func plainIdeal(order int, given [][]impl.PolTerm) (leasting, string) {
	made := plainMake(order, given, impl.GrbMaxFuel)
	if made.why != itIsDone {
		return leasting{}, made.why
	}
	return plainLeast(order, made.list), itIsDone
}

// wantIdeal asks IdlOf for what it is without the program, and tells that.
func wantIdeal(t *testing.T, order int, given [][]impl.PolTerm) (leasting, string) {
	t.Helper()
	want, why := plainIdeal(order, given)
	got, ok := impl.IdlOf(order, given)
	wantLists(t, got, ok, want.list, want.ok, "IdlOf of "+listText(given))
	return want, why
}

func TestIdlOfIsTheLeastOfWhatIsMade(t *testing.T) {
	done := map[int]int{}
	whys := map[string]int{}
	manyGiven(101, 600, func(order int, given [][]impl.PolTerm) {
		ideal, why := wantIdeal(t, order, given)
		whys[why]++
		if ideal.ok && len(ideal.list) > 1 {
			done[order]++
		}
	})
	for _, why := range []string{noFuel, tooLong, pairTooMuch, divTooMuch} {
		if whys[why] == 0 {
			t.Fatalf("none was not done because %s", why)
		}
	}
	for _, order := range allOrders {
		if done[order] < 30 {
			t.Fatalf("only %d have more than one in order %d", done[order], order)
		}
	}
}

// scaled are the same operators the other way round, each so many times.
func (d *dice) scaled(list [][]impl.PolTerm) [][]impl.PolTerm {
	var other [][]impl.PolTerm
	for _, p := range slices.Backward(list) {
		other = append(other, impl.PolScale(1+d.roll(impl.FldP-1), p))
	}
	return other
}

// P10
func TestIdlOfTheOtherWayRound(t *testing.T) {
	d := dice(1010)
	same, pairs, in := 0, 0, 0
	manyGiven(10, 900, func(order int, given [][]impl.PolTerm) {
		least, ok := impl.IdlOf(order, given)
		if !ok {
			return
		}
		if other, ok := impl.IdlOf(order, d.scaled(given)); ok {
			same++
			wantLists(t, other, ok, least, true, "IdlOf the other way round of "+listText(given))
		}
		for _, a := range least {
			for _, b := range least {
				rest, ok := impl.SprPoly(order, a, b)
				_, left, all := impl.RedAll(order, rest, least)
				if ok && all && len(left) > 0 {
					t.Fatalf("IdlOf(%d) of %s is %s; %s is left of a pair", order, listText(given), listText(least), plainText(left))
				}
				if ok && all {
					pairs++
				}
			}
		}
		in += wantEachIn(t, order, least, given)
	})
	if same < 300 || pairs < 1000 || in < 700 {
		t.Fatalf("%d are the same, of %d pairs nothing is left, %d are in", same, pairs, in)
	}
}

// P52
func TestIdlOfWithAProductBeside(t *testing.T) {
	d := dice(1052)
	same := 0
	manyGiven(52, 600, func(order int, given [][]impl.PolTerm) {
		given = given[:min(len(given), impl.GrbMaxGen-1)]
		product, ok := impl.WylMul(d.some(2, 1+d.roll(2)), given[0])
		if !ok {
			return
		}
		least, ok := impl.IdlOf(order, given)
		for _, place := range []int{0, 1, len(given)} {
			more, moreOk := impl.IdlOf(order, slices.Insert(slices.Clone(given), place, product))
			if ok && moreOk {
				same++
				wantLists(t, more, moreOk, least, true, "IdlOf of "+listText(given)+" with "+plainText(product))
			}
		}
	})
	if same < 500 {
		t.Fatalf("only %d were true", same)
	}
}

func TestIdlOfByHand(t *testing.T) {
	for _, c := range []struct {
		orders []int
		given  []string
		want   []string
	}{
		{allOrders, []string{"1"}, []string{"1"}}, {allOrders, []string{"7"}, []string{"1"}}, {allOrders, []string{"2xd+y+100"}, []string{"xd+51y+50"}}, {allOrders, []string{"3d", "5d"}, []string{"d"}},
		// All is made of a slope and its own time, and of a number and anything.
		{allOrders, []string{"d", "x"}, []string{"1"}}, {allOrders, []string{"y", "e"}, []string{"1"}}, {allOrders, []string{"x", "y", "d"}, []string{"1"}}, {allOrders, []string{"2xd+y+100", "9"}, []string{"1"}}, {allOrders, []string{"d+1", "d+2"}, []string{"1"}},
		// Of other ones it is not.
		{[]int{impl.OrdDeg, impl.OrdLex}, []string{"d", "e"}, []string{"e", "d"}}, {allOrders, []string{"d", "y"}, []string{"y", "d"}}, {[]int{impl.OrdDeg, impl.OrdLex}, []string{"e", "x"}, []string{"x", "e"}}, {[]int{impl.OrdOut}, []string{"e", "x"}, []string{"e", "x"}},
		{[]int{impl.OrdDeg}, []string{"x2+1", "xy+1"}, []string{"x+100y", "y2+1"}}, {[]int{impl.OrdLex, impl.OrdOut}, []string{"x2+1", "xy+1"}, []string{"y2+1", "x+100y"}},
		{allOrders, []string{"d2", "xd+100"}, []string{"xd+100", "d2"}}, {allOrders, []string{"xd+99", "d3"}, []string{"xd+99", "d3"}},
		{allOrders, []string{"d2+d", "d2+1"}, []string{"1"}}, {allOrders, []string{"d2+d", "d2+100"}, []string{"d+1"}}, {allOrders, []string{"xd", "yd"}, []string{"yd", "xd"}},
	} {
		for _, order := range c.orders {
			given := ops(t, c.given...)
			got, ok := impl.IdlOf(order, given)
			wantLists(t, got, ok, looseOps(t, c.want...), true, "IdlOf of "+listText(given))
			wantIdeal(t, order, given)
		}
	}
}

// It is false where a basis is not done: each way, and where none is made.
func TestIdlOfWhatIsNotDone(t *testing.T) {
	for _, c := range []struct {
		order int
		given []string
		why   string
	}{
		{impl.OrdDeg, []string{"x2y2", "yd2e2"}, tooLong}, {impl.OrdOut, []string{"15x2d2e2+11y2", "67y2de"}, tooLong}, {impl.OrdDeg, []string{"x2y", "xyd2e2"}, noFuel}, {impl.OrdLex, []string{"19x2e2", "48xyd2"}, noFuel},
		{impl.OrdLex, []string{"d+x15", "x+1"}, pairTooMuch}, {impl.OrdLex, []string{"e", "y", "d+y15"}, pairTooMuch}, {impl.OrdLex, []string{"e", "y", "d+y14"}, itIsDone}, {impl.OrdLex, []string{"x+y15", "xd+xy"}, divTooMuch},
		{impl.OrdLex, []string{"d", "d2e+de15+100y", "e"}, proofTooMuch},
		// Just done: with the most operators, and the most pairs.
		{impl.OrdDeg, []string{"y2d", "xe2"}, itIsDone}, {impl.OrdLex, []string{"y2d2e2", "16x2ye2", "29y2e"}, itIsDone}, {impl.OrdOut, []string{"64ye2", "21xd2e2+29xy2"}, itIsDone},
	} {
		ideal, why := wantIdeal(t, c.order, looseOps(t, c.given...))
		if why != c.why || ideal.ok != (why == itIsDone) {
			t.Fatalf("IdlOf of %v is %v: it ends because %s", c.given, ideal.ok, why)
		}
	}
	// A basis of one is done, but what is to be left of it may take too many steps.
	for _, terms := range []int{impl.RedFuel, impl.RedFuel + 1, impl.PolMax} {
		for _, order := range allOrders {
			if ideal, why := wantIdeal(t, order, [][]impl.PolTerm{manyTerms(terms)}); why != itIsDone || ideal.ok != (terms <= impl.RedFuel) {
				t.Fatalf("IdlOf of %d terms is %v", terms, ideal.ok)
			}
		}
	}
}

func TestIdlOfSoMany(t *testing.T) {
	for n := range 2 * impl.LstMax {
		for _, order := range allOrders {
			for _, p := range ops(t, "1", "d", "xd+y+100") {
				least, ok := impl.IdlOf(order, times(n, p))
				same, sure := impl.IdlSame(order, times(n, p), [][]impl.PolTerm{p})
				back, sureBack := impl.IdlSame(order, [][]impl.PolTerm{p}, times(n, p))
				if n < 1 || n > impl.GrbMaxGen {
					wantLists(t, least, ok, nil, false, "IdlOf of none, or of too many")
				} else {
					wantLists(t, least, ok, [][]impl.PolTerm{p}, true, "IdlOf of the same one")
				}
				if same != ok || sure != ok || back != ok || sureBack != ok {
					t.Fatalf("IdlSame of %d and one is %v and %v", n, same, sure)
				}
			}
		}
	}
	least, ok := impl.IdlOf(impl.OrdDeg, [][]impl.PolTerm{})
	wantLists(t, least, ok, nil, false, "IdlOf of the empty list")
	least, ok = impl.IdlOf(impl.OrdDeg, ops(t, "y2", "x2", "xy"))
	wantLists(t, least, ok, ops(t, "y2", "xy", "x2"), true, "IdlOf of three")
	least, ok = impl.IdlOf(impl.OrdDeg, ops(t, "y2", "x2", "xy", "d2"))
	wantLists(t, least, ok, nil, false, "IdlOf of four")
}

// others rolls lists beside one: the same, scaled and the other way round; with a part of one in another one; one fewer; any.
func (d *dice) others(given [][]impl.PolTerm) [][][]impl.PolTerm {
	mixed := d.scaled(given)
	product, ok := impl.WylMul(d.pol(1, 1), mixed[0])
	if sum, sumOk := impl.PolAdd(mixed[len(mixed)-1], product); ok && sumOk && len(mixed) > 1 && len(sum) > 0 {
		mixed[len(mixed)-1] = sum
	}
	_, any := d.given(1)
	lists := [][][]impl.PolTerm{given, d.scaled(given), mixed, given[1:], any}
	if product, ok := impl.WylMul(d.some(1, 1), given[0]); ok {
		lists = append(lists, append([][]impl.PolTerm{product}, given[1:]...))
	}
	return lists
}

// P51
func TestIdlSame(t *testing.T) {
	d := dice(1051)
	yes, no, neither := 0, 0, 0
	manyGiven(51, 180, func(order int, given [][]impl.PolTerm) {
		for _, other := range d.others(given) {
			a, okA := impl.IdlOf(order, given)
			b, okB := impl.IdlOf(order, other)
			for _, c := range [][2][][]impl.PolTerm{{given, other}, {other, given}} {
				same, ok := impl.IdlSame(order, c[0], c[1])
				if ok != (okA && okB) || same != (ok && sameList(a, b)) {
					t.Fatalf("IdlSame(%d) of %s and %s is %v and %v", order, listText(c[0]), listText(c[1]), same, ok)
				}
				switch {
				case same:
					yes++
				case ok:
					no++
				default:
					neither++
				}
			}
		}
	})
	if yes < 350 || no < 250 || neither < 200 {
		t.Fatalf("%d are the same, %d are not, of %d it is not said", yes, no, neither)
	}
}

// P51: what is made of operators hangs on no order, though the least basis does.
func TestIdlSameInEachOrder(t *testing.T) {
	d := dice(2051)
	yes, no := 0, 0
	manyGiven(151, 120, func(_ int, given [][]impl.PolTerm) {
		for _, other := range d.others(given) {
			said := map[bool]int{}
			for _, order := range allOrders {
				if same, ok := impl.IdlSame(order, given, other); ok {
					said[same]++
				}
			}
			if len(said) > 1 {
				t.Fatalf("IdlSame of %s and %s hangs on the order", listText(given), listText(other))
			}
			if said[true] > 1 {
				yes++
			}
			if said[false] > 1 {
				no++
			}
		}
	})
	if yes < 120 || no < 80 {
		t.Fatalf("%d are the same, %d are not", yes, no)
	}
}

func TestIdlSameByHand(t *testing.T) {
	for _, c := range []struct {
		a, b []string
		want bool
	}{
		{[]string{"d", "x"}, []string{"1"}, true}, {[]string{"d", "x"}, []string{"y", "e"}, true}, {[]string{"d", "e"}, []string{"e", "d"}, true}, {[]string{"d", "e"}, []string{"5e", "7d", "5e"}, true}, {[]string{"d", "e"}, []string{"d+e", "d+100e"}, true},
		{[]string{"d2", "xd+100"}, []string{"2xd+99", "d2"}, true}, {[]string{"d2", "xd+100"}, []string{"3xd+98", "d2", "xd2"}, true}, {[]string{"d2+d", "d2+100"}, []string{"9d+9"}, true},
		{[]string{"d"}, []string{"e"}, false}, {[]string{"d"}, []string{"d", "e"}, false}, {[]string{"d", "e"}, []string{"d"}, false}, {[]string{"d"}, []string{"d2"}, false}, {[]string{"d"}, []string{"xd"}, false}, {[]string{"d+1"}, []string{"d+2"}, false}, {[]string{"1"}, []string{"x"}, false},
		{[]string{"d2", "xd+100"}, []string{"d2", "xd"}, false}, {[]string{"d2", "xd+100"}, []string{"d2", "xd+99"}, false}, {[]string{"x2", "y"}, []string{"x", "y2"}, false}, {[]string{"x", "y"}, []string{"x", "y+1"}, false}, {[]string{"x", "y"}, []string{"x+1", "y"}, false},
	} {
		for _, order := range allOrders {
			for _, pair := range [][2][]string{{c.a, c.b}, {c.b, c.a}} {
				if same, ok := impl.IdlSame(order, ops(t, pair[0]...), ops(t, pair[1]...)); same != c.want || !ok {
					t.Fatalf("IdlSame(%d) of %v and %v is %v and %v", order, pair[0], pair[1], same, ok)
				}
			}
		}
	}
}

// One of both is false, or both are: nothing is said, also if both are one and the same.
func TestIdlSameWhereOneIsFalse(t *testing.T) {
	for _, no := range [][][]impl.PolTerm{looseOps(t, "d+x15", "x+1"), looseOps(t, "x+y15", "xd+xy"), looseOps(t, "19x2e2", "48xyd2"), {manyTerms(impl.RedFuel + 1)}, nil, {}, times(impl.GrbMaxGen+1, op(t, "d")), ops(t, "d", "0")} {
		for _, yes := range [][][]impl.PolTerm{ops(t, "d", "x"), ops(t, "1"), ops(t, "d2", "xd+100"), no} {
			for _, c := range [][2][][]impl.PolTerm{{yes, no}, {no, yes}} {
				if same, ok := impl.IdlSame(impl.OrdLex, c[0], c[1]); same || ok {
					t.Fatalf("IdlSame of %s and %s is %v and %v", listText(c[0]), listText(c[1]), same, ok)
				}
			}
		}
	}
}
