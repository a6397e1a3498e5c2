package tests

import (
	"slices"
	"testing"

	"loop.example/selvedge/impl"
)

// leasting is how a least basis is made, worked out without the program.
type leasting struct {
	list [][]impl.PolTerm
	kept []int      // the places of those that are needed, the least one first
	divs []division // of each of them, up to one that is too much
	ok   bool
}

// plainNeeded are the places of those whose greatest monomial no other one's divides, the least one first.
func plainNeeded(order int, list [][]impl.PolTerm) []int {
	var leads []impl.MonMon
	for _, p := range list {
		leads = append(leads, plainLead(order, numbersOf(p)))
	}
	var kept []int
	for place, own := range leads {
		divided := slices.ContainsFunc(leads, func(lead impl.MonMon) bool { return lead != own && plainDivides(lead, own) })
		if !divided && slices.Index(leads, own) == place {
			kept = append(kept, place)
		}
	}
	slices.SortFunc(kept, func(a, b int) int {
		return slices.Compare(orderKeys(order, leads[a]), orderKeys(order, leads[b]))
	})
	return kept
}

// plainLeast makes a least basis of what is ok, as the document says it: each in turn, by all others as they are then.
func plainLeast(order int, list [][]impl.PolTerm) leasting {
	l := leasting{kept: plainNeeded(order, list), ok: true}
	for _, place := range l.kept {
		l.list = append(l.list, list[place])
	}
	for at, p := range l.list {
		others := slices.Delete(slices.Clone(l.list), at, at+1)
		div := plainDivide(order, p, others)
		l.divs = append(l.divs, div)
		if !div.ok() || len(div.left) == 0 {
			return leasting{kept: l.kept, divs: l.divs}
		}
		c := div.left[plainLead(order, div.left)]
		l.list[at] = plainSum(nil, plainQuotient(1, c), fromNumbers(div.left))
	}
	return l
}

// wantLeast asks GrbLeast for what it is without the program, and tells that.
func wantLeast(t *testing.T, order int, list [][]impl.PolTerm) leasting {
	t.Helper()
	want := plainLeast(order, list)
	got, ok := impl.GrbLeast(order, list)
	wantLists(t, got, ok, want.list, want.ok, "GrbLeast of "+listText(list))
	return want
}

// wantLists asks for a list as an answer, one that is ok, or for nothing beside a false.
func wantLists(t *testing.T, got [][]impl.PolTerm, ok bool, want [][]impl.PolTerm, wantOk bool, name string) {
	t.Helper()
	if ok != wantOk || !sameList(got, want) {
		t.Fatalf("%s is %s and %v, not %s and %v", name, listText(got), ok, listText(want), wantOk)
	}
	if !impl.LstOk(got) {
		t.Fatalf("%s is not ok: %s", name, listText(got))
	}
}

// steep rolls a list of few small monomials, each with one behind it that comes to MonMax.
func (d *dice) steep() [][]impl.PolTerm {
	var list [][]impl.PolTerm
	for range 2 + d.roll(4) {
		numbers := map[impl.MonMon]int{{X: d.roll(3), Y: impl.MonMax - d.roll(5), E: d.roll(2)}: 1 + d.roll(impl.FldP-1)}
		numbers[d.mon(1)] = 1 + d.roll(impl.FldP-1)
		list = append(list, fromNumbers(numbers))
	}
	return list
}

// manyLists rolls so many lists, up to LstMax long: of any operators, of some that come to MonMax, and of bases, which hold more than they need.
func manyLists(seed dice, rounds int, try func(order int, list [][]impl.PolTerm)) {
	for round := range rounds {
		order := allOrders[seed.roll(3)]
		most := []int{1, 2, 1, 3, 2, 7}[round%6]
		try(order, seed.list(impl.LstMax, 4, most))
		try(order, seed.list(5, 3, most))
		try(order, seed.steep())
		order, given := seed.given(1 + most/3)
		base := impl.GrbMake(order, given, 1+seed.roll(impl.GrbMaxFuel))
		try(order, base.List)
		slices.Reverse(base.List)
		try(order, base.List)
	}
}

func TestGrbLeastIsWhatItsDivisionsSay(t *testing.T) {
	taken := map[int]int{}
	tooMuch, dropped := 0, 0
	manyLists(10, 1200, func(order int, list [][]impl.PolTerm) {
		least := wantLeast(t, order, list)
		if !least.ok {
			tooMuch++
			return
		}
		if len(least.kept) < len(list) {
			dropped++
		}
		for _, div := range least.divs {
			if slices.ContainsFunc(div.taken, func(numbers map[impl.MonMon]int) bool { return len(numbers) > 0 }) {
				taken[order]++
			}
		}
	})
	if tooMuch < 50 || dropped < 2500 {
		t.Fatalf("%d were too much, of %d some are not needed", tooMuch, dropped)
	}
	for _, order := range allOrders {
		if taken[order] < 250 {
			t.Fatalf("only of %d something was taken in order %d", taken[order], order)
		}
	}
}

// P9
func TestGrbLeastIsLeast(t *testing.T) {
	same, in := 0, 0
	manyLists(9, 200, func(order int, list [][]impl.PolTerm) {
		least, ok := impl.GrbLeast(order, list)
		if !ok {
			return
		}
		for place, p := range least {
			lead, ok := impl.PolLead(order, p)
			others := slices.Delete(slices.Clone(least), place, place+1)
			if !ok || lead.C != 1 || !impl.RedFree(order, p, others) {
				t.Fatalf("GrbLeast(%d) of %s is %s", order, listText(list), listText(least))
			}
			if place == 0 {
				continue
			}
			if ahead, _ := impl.PolLead(order, least[place-1]); impl.MonCmp(order, ahead.M, lead.M) >= 0 {
				t.Fatalf("GrbLeast(%d) of %s does not rise: %s", order, listText(list), listText(least))
			}
		}
		if again, ok := impl.GrbLeast(order, least); ok {
			same++
			wantLists(t, again, ok, least, true, "GrbLeast of GrbLeast of "+listText(list))
		}
		if !impl.GrbOk(order, list) {
			return
		}
		in += wantEachIn(t, order, list, least) + wantEachIn(t, order, least, list)
	})
	if same < 900 || in < 1400 {
		t.Fatalf("%d are the same again, %d are in the other one", same, in)
	}
}

// wantEachIn asks that each operator is found to be made of a list, wherever that is not too much, and tells how many are.
func wantEachIn(t *testing.T, order int, list [][]impl.PolTerm, pols [][]impl.PolTerm) int {
	t.Helper()
	in := 0
	for _, p := range pols {
		made, ok := impl.GrbIn(order, list, p)
		if ok && !made {
			t.Fatalf("GrbIn(%d) of %s by %s is false", order, plainText(p), listText(list))
		}
		if ok {
			in++
		}
	}
	return in
}

// P48
func TestGrbStairsOfGrbLeast(t *testing.T) {
	pairs := 0
	manyLists(480, 200, func(order int, list [][]impl.PolTerm) {
		least, _ := impl.GrbLeast(order, list)
		for _, l := range [][][]impl.PolTerm{list, least} {
			var want []impl.MonMon
			for _, p := range l {
				lead, _ := impl.PolLead(order, p)
				want = append(want, lead.M)
			}
			if got := impl.GrbStairs(order, l); !slices.Equal(got, want) {
				t.Fatalf("GrbStairs(%d) of %s is %v", order, listText(l), got)
			}
		}
		stairs := impl.GrbStairs(order, least)
		for i, a := range stairs {
			for k, b := range stairs {
				if i != k && impl.MonDivides(a, b) {
					t.Fatalf("GrbLeast(%d) of %s is %s", order, listText(list), listText(least))
				}
				if i != k {
					pairs++
				}
			}
		}
	})
	if pairs < 1000 {
		t.Fatalf("there are only %d pairs", pairs)
	}
}

// All commute in these, but for those that are named.
func TestGrbLeastByHand(t *testing.T) {
	for _, c := range []struct {
		orders []int
		list   []string
		want   []string
	}{
		{allOrders, nil, nil},
		// One alone: only its number changes.
		{allOrders, []string{"1"}, []string{"1"}}, {allOrders, []string{"7"}, []string{"1"}}, {allOrders, []string{"5x"}, []string{"x"}}, {allOrders, []string{"2xd+y+100"}, []string{"xd+51y+50"}}, {allOrders, []string{"x15y15d15e15"}, []string{"x15y15d15e15"}},
		// Which number is made 1 hangs on which term is the greatest.
		{[]int{impl.OrdDeg, impl.OrdOut}, []string{"3x2+2d"}, []string{"x2+68d"}}, {[]int{impl.OrdLex}, []string{"3x2+2d"}, []string{"52x2+d"}},
		{[]int{impl.OrdDeg, impl.OrdLex}, []string{"2e+3x"}, []string{"e+52x"}}, {[]int{impl.OrdOut}, []string{"2e+3x"}, []string{"68e+x"}},
		// The least one first: by the greatest monomial in the order, wherever it stands.
		{[]int{impl.OrdDeg, impl.OrdLex}, []string{"d", "e", "x", "y"}, []string{"y", "x", "e", "d"}}, {[]int{impl.OrdOut}, []string{"d", "e", "x", "y"}, []string{"y", "e", "x", "d"}},
		{[]int{impl.OrdDeg, impl.OrdLex}, []string{"x", "d", "y", "e"}, []string{"y", "x", "e", "d"}}, {[]int{impl.OrdOut}, []string{"x", "d", "y", "e"}, []string{"y", "e", "x", "d"}},
		{[]int{impl.OrdDeg}, []string{"y3", "x2", "d"}, []string{"d", "x2", "y3"}}, {[]int{impl.OrdLex}, []string{"x2", "d", "y3"}, []string{"y3", "x2", "d"}}, {[]int{impl.OrdOut}, []string{"d", "x2", "y3"}, []string{"y3", "d", "x2"}},
		{[]int{impl.OrdLex}, []string{"d2+y2", "y3+x"}, []string{"x+y3", "d2+y2"}}, {[]int{impl.OrdDeg}, []string{"y3+x", "d2+y2"}, []string{"d2+y2", "y3+x"}},
		// Of some with one greatest monomial the first one, whatever its number is, and whatever is behind it.
		{allOrders, []string{"d+1", "d+2"}, []string{"d+1"}}, {allOrders, []string{"d+2", "d+1"}, []string{"d+2"}}, {allOrders, []string{"2d+2", "d+5", "d"}, []string{"d+1"}}, {allOrders, []string{"e", "d", "d+y", "e+1"}, []string{"e", "d"}},
		{[]int{impl.OrdLex}, []string{"d+x2", "d+x"}, []string{"d+x2"}}, {[]int{impl.OrdDeg}, []string{"d+x2", "d+x"}, []string{"d+x", "x2+100x"}},
		{allOrders, []string{"7", "1", "3"}, []string{"1"}}, {allOrders, []string{"x", "x", "x", "x"}, []string{"x"}},
		// One whose greatest monomial another one's divides is dropped, behind it or ahead of it, and what is behind its greatest term with it.
		{allOrders, []string{"x2", "3x"}, []string{"x"}}, {allOrders, []string{"3x", "x2"}, []string{"x"}}, {allOrders, []string{"xd+y", "d+1"}, []string{"d+1"}}, {allOrders, []string{"x3", "x2", "x"}, []string{"x"}}, {allOrders, []string{"x", "x2", "x3"}, []string{"x"}},
		{allOrders, []string{"d", "x", "7"}, []string{"1"}}, {allOrders, []string{"7", "x", "d"}, []string{"1"}}, {allOrders, []string{"xd+1", "xd+2", "d", "d+1"}, []string{"d"}}, {allOrders, []string{"x2", "xy", "y2", "x2y", "xy2"}, []string{"y2", "xy", "x2"}},
		// Two that do not divide each other stay both, though their terms are made of the same factors.
		{allOrders, []string{"x2y", "xy2"}, []string{"xy2", "x2y"}}, {allOrders, []string{"x", "d"}, []string{"x", "d"}},
		// What is left of each by the others: one behind the other, and all at once.
		{[]int{impl.OrdDeg, impl.OrdLex}, []string{"x+y", "y+1"}, []string{"y+1", "x+100"}}, {[]int{impl.OrdDeg, impl.OrdLex}, []string{"d+e+x+y", "2e+x+y", "3x+y", "4y+1"}, []string{"y+76", "x+42", "e+42", "d+42"}},
		{[]int{impl.OrdLex}, []string{"d+xe", "x"}, []string{"x", "d"}}, {[]int{impl.OrdLex}, []string{"d+x2e", "x+1"}, []string{"x+1", "d+e"}},
		// By the left: e times y is ye+1, y times e is ye; the least one that divides takes first, though it is given last.
		{[]int{impl.OrdLex}, []string{"e", "y", "d+ye"}, []string{"y", "e", "d+100"}}, {[]int{impl.OrdLex}, []string{"y", "e", "d+ye"}, []string{"y", "e", "d+100"}}, {[]int{impl.OrdLex}, []string{"d+ye", "e", "x2"}, []string{"x2", "e", "d"}},
		{[]int{impl.OrdOut}, []string{"x+ye", "e", "y"}, []string{"y", "e", "x+100"}},
		// Each by all others as they are then: by xd2+xye, as it was, 2xy would be left of d4+xyd2, and so it would, if that were divided first.
		{allOrders, []string{"y2", "xe", "xd2+xye", "d4+xyd2"}, []string{"y2", "xe", "xd2", "d4"}}, {allOrders, []string{"d4+xyd2", "xd2+xye", "xe", "y2"}, []string{"y2", "xe", "xd2", "d4"}},
		{[]int{impl.OrdOut}, []string{"d+xy", "y2", "e", "x+ye"}, []string{"y2", "e", "x", "d"}},
	} {
		for _, order := range c.orders {
			list := looseOps(t, c.list...)
			got, ok := impl.GrbLeast(order, list)
			wantLists(t, got, ok, looseOps(t, c.want...), true, "GrbLeast of "+listText(list))
			wantLeast(t, order, list)
		}
	}
	got, ok := impl.GrbLeast(impl.OrdDeg, [][]impl.PolTerm{})
	wantLists(t, got, ok, nil, true, "GrbLeast of the empty list")
}

// Each division is one of RedFuel steps, or of one more, also by no others; one that is not needed is not divided.
func TestGrbLeastAtRedFuel(t *testing.T) {
	for _, terms := range []int{impl.RedFuel - 1, impl.RedFuel, impl.RedFuel + 1, impl.PolMax} {
		many := manyTerms(terms) // its greatest monomial has 15 `x` and 15 `y` in OrdDeg, `d` in OrdLex and OrdOut
		for _, order := range allOrders {
			for _, c := range []struct {
				list   [][]impl.PolTerm
				needed bool
			}{
				{[][]impl.PolTerm{many}, true}, {[][]impl.PolTerm{many, op(t, "e")}, true}, {[][]impl.PolTerm{op(t, "e"), many, op(t, "e2")}, true}, {[][]impl.PolTerm{many, impl.PolScale(2, many)}, true},
				{[][]impl.PolTerm{many, op(t, "3")}, false}, {[][]impl.PolTerm{op(t, "x"), op(t, "d"), many}, false}, {[][]impl.PolTerm{impl.PolOf(1, plainLead(order, numbersOf(many))), many}, false},
			} {
				least := wantLeast(t, order, c.list)
				if least.ok != (terms <= impl.RedFuel || !c.needed) {
					t.Fatalf("GrbLeast with %d terms is %v", terms, least.ok)
				}
			}
		}
	}
}

// A product is past MonMax at the second one, at the last one, or nowhere: as what took it is another one by then, or it is dropped.
func TestGrbLeastAtMonMax(t *testing.T) {
	for _, c := range []struct {
		list []string
		want []string // none, if it is too much
	}{
		{[]string{"x+y15", "d+xy"}, nil}, {[]string{"d+xy", "x+y15"}, nil}, {[]string{"x+y14", "d+xy"}, []string{"x+y14", "d+100y15"}}, {[]string{"x+y15", "d+x"}, []string{"x+y15", "d+100y15"}},
		{[]string{"x+y15", "e+1", "d+xy"}, nil}, {[]string{"x+y15", "e+xy", "d+1"}, nil}, {[]string{"x+y15", "e+1", "d+1"}, []string{"x+y15", "e+1", "d+1"}},
		{[]string{"y15", "x+y15", "d+xy"}, []string{"y15", "x", "d"}}, {[]string{"d+xy", "x+y15", "y15"}, []string{"y15", "x", "d"}}, {[]string{"x+y15", "d+xy", "y"}, []string{"y", "x", "d"}},
		{[]string{"x+y15", "d+xy", "d"}, nil}, {[]string{"x+y15", "d", "d+xy"}, []string{"x+y15", "d"}}, {[]string{"x+y15", "d2+xy", "d"}, []string{"x+y15", "d"}}, {[]string{"x+y15", "d+xy", "7"}, []string{"1"}},
		{[]string{"x+1", "x+y15", "d+xy"}, []string{"x+1", "d+100y"}},
	} {
		list := looseOps(t, c.list...)
		least := wantLeast(t, impl.OrdLex, list)
		if least.ok != (c.want != nil) || !sameList(least.list, looseOps(t, c.want...)) {
			t.Fatalf("GrbLeast of %v is %s and %v", c.list, listText(least.list), least.ok)
		}
	}
}

// A division with more than PolMax terms on its way is too much, though it leaves fewer.
func TestGrbLeastAtPolMax(t *testing.T) {
	first := together(map[impl.MonMon]int{{D: 15}: 1}, forms(120, 14, impl.MonMon{}))
	second := together(map[impl.MonMon]int{{E: 14}: 1}, forms(91, 12, impl.MonMon{E: 1}), forms(58, 11, impl.MonMon{E: 2}))
	for beside, ok := range map[int]bool{129: true, 130: true, 131: false} {
		// Neither of both divides the greatest monomial of the third one.
		p := together(map[impl.MonMon]int{{X: 15, Y: 15, D: 14, E: 13}: 1, {D: 15}: 1}, numbersOf(second), forms(100, 13, impl.MonMon{D: 1}), forms(beside-100, 12, impl.MonMon{D: 2}))
		for _, list := range [][][]impl.PolTerm{{first, second, p}, {p, second, first}} {
			least := wantLeast(t, impl.OrdDeg, list)
			div := least.divs[len(least.divs)-1]
			if least.ok != ok || len(least.kept) != 3 || len(least.divs) != 3 || div.most != beside+270 || div.steps > impl.RedFuel {
				t.Fatalf("GrbLeast with %d terms on the way, in %d steps, is %v", div.most, div.steps, least.ok)
			}
		}
	}
}

func TestGrbLeastAtLstMax(t *testing.T) {
	for n := range 2 * impl.LstMax {
		for _, order := range allOrders {
			got, ok := impl.GrbLeast(order, times(n, op(t, "3d+1")))
			if n > impl.LstMax {
				wantLists(t, got, ok, nil, false, "GrbLeast of too many")
			} else {
				wantLists(t, got, ok, times(min(n, 1), op(t, "d+34")), true, "GrbLeast of the same one")
			}
		}
	}
	// All of the longest list are needed: those with as many factors as any other one.
	var list [][]impl.PolTerm
	for i := range impl.LstMax {
		list = append(list, fromNumbers(map[impl.MonMon]int{{X: i, Y: impl.LstMax - i}: 1 + i, {Y: i}: 1}))
	}
	for _, order := range allOrders {
		if least := wantLeast(t, order, list); len(least.list) != impl.LstMax {
			t.Fatalf("GrbLeast of LstMax has %d", len(least.list))
		}
	}
}
