package tests

import (
	"slices"
	"testing"

	"loop.example/selvedge/impl"
)

// plainDid is what a line says of slots that are ok, worked out without the program.
func plainDid(slots [][]impl.PolTerm, l impl.DskLine) ([]impl.PolTerm, bool) {
	a, b := slots[l.A], slots[l.B]
	switch l.Kind {
	case impl.LinSet:
		return l.P, true
	case impl.LinAdd:
		sum := plainSum(a, 1, b)
		return sum, len(sum) <= impl.PolMax
	case impl.LinMul:
		w := plainWays(a, b)
		return fromNumbers(w.sum), w.ok()
	case impl.LinApart:
		ab, ba := plainWays(a, b), plainWays(b, a)
		apart := plainSum(fromNumbers(ab.sum), -1, fromNumbers(ba.sum))
		return apart, ab.ok() && ba.ok() && len(apart) <= impl.PolMax
	case impl.LinDo:
		if slices.ContainsFunc(b, func(term impl.PolTerm) bool { return slopesOf(term.M) > 0 }) {
			return nil, false
		}
		return plainDo(a, b)
	case impl.LinRound:
		w := plainTurns(round(), a)
		return fromNumbers(w.sum), w.ok()
	case impl.LinBack:
		w := plainTurns(back(), a)
		return fromNumbers(w.sum), w.ok()
	}
	return slots[l.To], true
}

// wantDone asks DskDo for what it is without the program, and says whether that is true.
func wantDone(t *testing.T, slots [][]impl.PolTerm, l impl.DskLine) bool {
	t.Helper()
	want, wantOk := plainDid(slots, l)
	got, ok := impl.DskDo(slots, l)
	if ok != wantOk {
		t.Fatalf("DskDo of %q in %s is %v", impl.DskText(l), listText(slots), ok)
	}
	if ok {
		wantPol(t, got, want, "DskDo of "+impl.DskText(l)+" in "+listText(slots))
	} else {
		wantNothing(t, got, ok, "DskDo of "+impl.DskText(l))
	}
	return ok
}

// line rolls a line of a kind.
func (d *dice) line(k lineKind, terms int, most int) impl.DskLine {
	l := impl.DskLine{Kind: k.kind}
	for _, slot := range []*int{&l.To, &l.A, &l.B}[:k.slots] {
		*slot = d.roll(6)
	}
	if k.kind == impl.LinSet {
		l.P = d.pol(terms, most)
	}
	return l
}

// slots rolls what stands in the slots; some of them have no slopes.
func (d *dice) slots(terms int, most int) [][]impl.PolTerm {
	var slots [][]impl.PolTerm
	for range 6 {
		if d.roll(2) == 0 {
			slots = append(slots, d.form(terms, most))
		} else {
			slots = append(slots, d.pol(terms, most))
		}
	}
	return slots
}

// P81
func TestDskDoIsWhatItsWordSays(t *testing.T) {
	for _, k := range lineKinds {
		done, tooMuch := 0, 0
		tries(t, dice(81+k.kind), 100, func(d *dice, most int) bool {
			slots, l := d.slots(4, most), d.line(k, 4, most)
			ok := wantDone(t, slots, l)
			if ok {
				done++
			} else {
				tooMuch++
			}
			return ok
		})
		// These three alone may be too much where operators are small.
		small := slices.Contains([]int{impl.LinMul, impl.LinApart, impl.LinDo}, k.kind)
		if done < 500 || small && tooMuch < 50 {
			t.Fatalf("%s was done %d times, %d times it was too much", k.word, done, tooMuch)
		}
	}
}

// P81: each slot is the one that is named, as To, as A and as B.
func TestDskDoOfEachSlot(t *testing.T) {
	slots := ops(t, "x+1", "y2", "5", "2xy+y", "x3+7", "x2+y+3")
	slopes := ops(t, "d+x", "e2+1", "xd+3", "ye+d", "d2", "de+y")
	for _, l := range linesWithout() {
		if !wantDone(t, slots, l) {
			t.Fatalf("DskDo of %q is false", impl.DskText(l))
		}
		if l.Kind != impl.LinDo {
			wantDone(t, slopes, l)
		}
	}
	for to := range 6 {
		for _, p := range ops(t, "0", "1", "2xd+y+100") {
			wantDone(t, slots, impl.DskLine{Kind: impl.LinSet, To: to, P: p})
		}
	}
}

func TestDskDoByHand(t *testing.T) {
	slots := ops(t, "d", "x", "xd+ye", "x3y", "0", "2xd+y+100")
	for text, want := range map[string]string{
		"set A 0": "0", "set F x": "x", "set A 2xd+y+100": "2xd+y+100",
		"add A A B": "d+x", "add F A A": "2d", "add A E E": "0", "add B E F": "2xd+y+100",
		"mul A A B": "xd+1", "mul A B A": "xd", "mul C A A": "d2", "mul A E F": "0",
		"apart A A B": "1", "apart A B A": "100", "apart A A A": "0", "apart A A E": "0",
		"do A C D": "4x3y", "do A A D": "3x2y", "do A B D": "x4y", "do A A B": "1", "do D A E": "0",
		"round A A": "100x", "round A B": "d", "round A E": "0", "round F F": "99xd+e+98",
		"back A A": "100d", "back A B": "x", "back B E": "0", "back A F": "99xd+y+98",
		"show A": "d", "show E": "0", "show F": "2xd+y+100",
	} {
		l, ok := impl.DskRead(text)
		if !ok {
			t.Fatalf("%q is no line", text)
		}
		p, ok := impl.DskDo(slots, l)
		if !ok || plainText(p) != want {
			t.Fatalf("DskDo of %q is %s and %v, not %s", text, plainText(p), ok, want)
		}
	}
	// Slopes do nothing to what is no form.
	for _, text := range []string{"do A B A", "do A A A", "do A A C", "do A E A", "do D D F"} {
		l, _ := impl.DskRead(text)
		p, ok := impl.DskDo(slots, l)
		wantNothing(t, p, ok, "DskDo of "+text)
	}
}

// someLines are lines of each kind.
func someLines(t *testing.T) []impl.DskLine {
	lines := []impl.DskLine{{Kind: impl.LinSet}, {Kind: impl.LinSet, To: 5, P: op(t, "2xd+y+100")}}
	for _, l := range linesWithout() {
		if (l.To+l.A+l.B)%5 == 0 {
			lines = append(lines, l)
		}
	}
	return lines
}

func TestDskDoWithNoSlots(t *testing.T) {
	for _, l := range someLines(t) {
		for n := range 20 {
			for _, p := range [][]impl.PolTerm{nil, op(t, "1"), op(t, "x")} {
				got, ok := impl.DskDo(times(n, p), l)
				if ok != (n == 6) {
					t.Fatalf("DskDo of %q with %d slots is %v", impl.DskText(l), n, ok)
				}
				if !ok {
					wantNothing(t, got, ok, "DskDo with too few slots, or too many")
				}
			}
		}
		got, ok := impl.DskDo(nil, l)
		wantNothing(t, got, ok, "DskDo with no slots")
		// Spare room is no slots.
		for _, n := range []int{0, 1, 5} {
			got, ok = impl.DskDo(times(6, op(t, "x"))[:n], l)
			wantNothing(t, got, ok, "DskDo with too few slots")
		}
	}
}

// wantNotDone asks that a line that has no text does nothing.
func wantNotDone(t *testing.T, l impl.DskLine) {
	t.Helper()
	for _, slots := range [][][]impl.PolTerm{nil, make([][]impl.PolTerm, 6), times(6, op(t, "x")), times(7, op(t, "x"))} {
		got, ok := impl.DskDo(slots, l)
		wantNothing(t, got, ok, "DskDo of a line that has no text")
	}
}

func TestDskDoOfNoLine(t *testing.T) {
	for _, kind := range badKinds {
		wantNotDone(t, impl.DskLine{Kind: kind})
		wantNotDone(t, impl.DskLine{Kind: kind, P: op(t, "x")})
	}
	for _, k := range lineKinds {
		for _, slot := range badPlaces {
			for _, l := range []impl.DskLine{{To: slot}, {A: slot}, {B: slot}, {To: slot, A: slot, B: slot}} {
				l.Kind = k.kind
				wantNotDone(t, l)
			}
		}
		if k.kind != impl.LinSet {
			wantNotDone(t, impl.DskLine{Kind: k.kind, P: op(t, "x")})
		}
		if k.slots < 3 {
			wantNotDone(t, impl.DskLine{Kind: k.kind, B: 1})
		}
		if k.slots < 2 {
			wantNotDone(t, impl.DskLine{Kind: k.kind, A: 1})
		}
		for _, bad := range allBadPols() {
			wantNotDone(t, impl.DskLine{Kind: k.kind, P: bad})
		}
	}
	for bytes := 389; bytes <= 400; bytes++ {
		p := longText(bytes)
		got, ok := impl.DskDo(make([][]impl.PolTerm, 6), impl.DskLine{Kind: impl.LinSet, P: p})
		if bytes > 394 {
			wantNothing(t, got, ok, "DskDo of a line whose text is too long")
		} else {
			wantPol(t, must(t)(got, ok), p, "DskDo")
		}
	}
	wantNotDone(t, impl.DskLine{Kind: impl.LinSet, P: manyTerms(impl.PolMax)})
}

// asked are the slots whose operators a line asks for.
func asked(l impl.DskLine) []int {
	switch l.Kind {
	case impl.LinSet:
		return nil
	case impl.LinShow:
		return []int{l.To}
	case impl.LinRound, impl.LinBack:
		return []int{l.A}
	}
	return []int{l.A, l.B}
}

// P81: what is not ok in a slot that is asked for ends in nothing, also beside 0; in another slot it changes nothing.
func TestDskDoOfSlotsThatAreNotOk(t *testing.T) {
	for _, bad := range allBadPols() {
		for _, l := range someLines(t) {
			for place := range 6 {
				for _, p := range [][]impl.PolTerm{nil, op(t, "1")} {
					slots := times(6, p)
					want, wantOk := plainDid(slots, l)
					slots[place] = bad
					got, ok := impl.DskDo(slots, l)
					if slices.Contains(asked(l), place) {
						wantNothing(t, got, ok, "DskDo of "+impl.DskText(l)+" of a slot that is not ok")
					} else if ok != wantOk || !slices.Equal(got, want) {
						t.Fatalf("DskDo of %q beside a slot that is not ok is %v and %v", impl.DskText(l), got, ok)
					}
				}
			}
		}
	}
}

// Where PolMax and MonMax are come to, and passed by one.
func TestDskDoTooMuch(t *testing.T) {
	full := manyTerms(impl.PolMax)
	crowd := crowds()[1]
	small := impl.PolMax - crowd.made
	apart := map[bool][]impl.PolTerm{}
	for _, n := range []int{28, 29} {
		numbers := map[impl.MonMon]int{}
		for i := range n {
			numbers[impl.MonMon{X: 7, D: i % 8, E: 7 + i/8}] = 1
		}
		apart[n == 28] = fromNumbers(numbers)
	}
	for _, c := range []struct {
		kind int
		a, b []impl.PolTerm
		want bool
	}{
		{impl.LinAdd, manyTerms(200), behind(200, 200), true}, {impl.LinAdd, manyTerms(200), behind(200, 201), false}, {impl.LinAdd, full, full, true}, {impl.LinAdd, full, op(t, "e"), false},
		{impl.LinMul, op(t, "x8"), op(t, "x7"), true}, {impl.LinMul, op(t, "x8"), op(t, "x8"), false}, {impl.LinMul, op(t, "x4+1"), rows(200, 0), true}, {impl.LinMul, op(t, "x4+1"), rows(200, 1), false}, {impl.LinMul, op(t, "x+100"), wayUp(399, 14), true}, {impl.LinMul, op(t, "x+100"), wayUp(400, 14), false}, {impl.LinMul, full, nil, true}, {impl.LinMul, full, op(t, "1"), true},
		{impl.LinApart, op(t, "x15"), op(t, "d15"), true}, {impl.LinApart, op(t, "x15"), op(t, "x"), false}, {impl.LinApart, op(t, "d7+y7"), apart[true], true}, {impl.LinApart, op(t, "d7+y7"), apart[false], false}, {impl.LinApart, op(t, "x+100"), wayUp(400, 14), false},
		{impl.LinDo, op(t, "x"), op(t, "x14"), true}, {impl.LinDo, op(t, "x"), op(t, "x15"), false}, {impl.LinDo, op(t, "x15d15"), op(t, "x15y15"), true}, {impl.LinDo, op(t, "xd"), manyTerms(256), true}, {impl.LinDo, op(t, "xd"), manyTerms(257), false},
		{impl.LinRound, op(t, "x15y15d15e15"), nil, true}, {impl.LinRound, crowd.of(small, 0), nil, true}, {impl.LinRound, crowd.of(small+1, 0), nil, false}, {impl.LinRound, crowd.of(small+1, crowd.away()), nil, false},
		{impl.LinBack, op(t, "x15y15d15e15"), nil, true}, {impl.LinBack, crowd.of(small, 0), nil, true}, {impl.LinBack, crowd.of(small+1, 0), nil, false},
	} {
		l := impl.DskLine{Kind: c.kind, To: 2, A: 4}
		slots := [][]impl.PolTerm{c.b, nil, full, nil, c.a, nil}
		if got := wantDone(t, slots, l); got != c.want {
			t.Fatalf("DskDo of %q of %d and %d terms is %v", impl.DskText(l), len(c.a), len(c.b), got)
		}
	}
	for to := range 6 {
		if !wantDone(t, times(6, full), impl.DskLine{Kind: impl.LinShow, To: to}) {
			t.Fatal("DskDo does not show PolMax terms")
		}
	}
}

func TestDskDoNewMemory(t *testing.T) {
	full := manyTerms(impl.PolMax)
	slotsOf := [][][]impl.PolTerm{ops(t, "d", "x", "xd+ye", "x3y", "0", "2xd+y+100"), make([][]impl.PolTerm, 6), times(6, full), times(5, full), times(7, full), nil, append(times(5, op(t, "x")), badPols()["twice the same"])}
	d := dice(811)
	for range 30 {
		slotsOf = append(slotsOf, d.slots(4, 2))
	}
	lines := append(someLines(t), impl.DskLine{Kind: impl.LinSet, To: 1, P: longText(394)}, impl.DskLine{Kind: impl.LinSet, P: longText(395)}, impl.DskLine{Kind: impl.LinSet, P: badPols()["number 0"]}, impl.DskLine{Kind: impl.LinShow, P: op(t, "x")})
	for _, slots := range slotsOf {
		for _, l := range lines {
			name := "DskDo of " + impl.DskText(l)
			arg, lineArg := roomyList(slots), l
			lineArg.P = roomy(l.P)
			first, _ := impl.DskDo(arg, lineArg)
			second, _ := impl.DskDo(arg, lineArg)
			wantOwnMemory(t, []span{spanOf(first)}, append(listSpans(arg), spanOf(lineArg.P), spanOf(second)), name)
			kept := slices.Clone(first)
			scribble(second)
			wantListUntouched(t, arg, slots, name)
			wantUntouched(t, lineArg.P, l.P, name)
			if !slices.Equal(first, kept) {
				t.Fatalf("%s: two answers share memory", name)
			}
		}
	}
}

// Slots may lie in one memory, and the line's operator, too.
func TestDskDoOfOneAndTheSame(t *testing.T) {
	p := roomy(op(t, "x2+y+1"))
	was := slices.Clone(p)
	slots := [][]impl.PolTerm{p, p, p[1:], p[:2], p[:0], p[2:]}
	lines := append(linesWithout(), impl.DskLine{Kind: impl.LinSet, P: p}, impl.DskLine{Kind: impl.LinSet, P: p[1:]}, impl.DskLine{Kind: impl.LinSet, P: p[:0]})
	for _, l := range lines {
		if !wantDone(t, slots, l) {
			t.Fatalf("DskDo of %q is false", impl.DskText(l))
		}
		got, _ := impl.DskDo(slots, l)
		wantOwnMemory(t, []span{spanOf(got)}, []span{spanOf(p), spanOf(slots)}, "DskDo")
		scribble(got)
		wantUntouched(t, p, was, "DskDo of "+impl.DskText(l))
	}
}
