package tests

import (
	"slices"
	"strconv"
	"strings"
	"testing"

	"loop.example/selvedge/impl"
)

// wantRun asks DskRun for lines.
func wantRun(t *testing.T, lines []string, want ...string) {
	t.Helper()
	if got := impl.DskRun(lines); !slices.Equal(got, want) {
		t.Fatalf("DskRun of %q is %q, not %q", lines, got, want)
	}
}

// plainRun runs lines without the program, line by line.
func plainRun(lines []string) []string {
	if len(lines) > 60 {
		return []string{"long"}
	}
	var told []string
	slots := make([][]impl.PolTerm, 6)
	for place, text := range lines {
		l, ok := plainLine(text)
		if !ok {
			told = append(told, "line "+strconv.Itoa(place+1))
			continue
		}
		p, ok := plainDid(slots, l)
		switch {
		case !ok:
			told = append(told, "too much "+strconv.Itoa(place+1))
		case l.Kind == impl.LinShow:
			told = append(told, plainText(p))
		default:
			slots[l.To] = p
		}
	}
	return told
}

// run rolls lines, some of which are none, and which set slots often enough that not all comes to be too much.
func (d *dice) run(n int, most int) []string {
	var lines []string
	for range n {
		k := lineKinds[d.roll(len(lineKinds))]
		if d.roll(3) == 0 {
			k = lineKinds[0]
		}
		l := d.line(k, 2, most)
		if k.kind == impl.LinSet && d.roll(3) > 0 {
			l.P = d.some(2, most)
		}
		if k.kind == impl.LinSet && d.roll(2) == 0 {
			l.P = d.form(3, most)
		}
		text := []byte(plainLineText(l))
		if d.roll(12) == 0 {
			text[d.roll(len(text))] = byte(d.roll(256))
		}
		lines = append(lines, string(text))
		if d.roll(3) == 0 {
			lines = append(lines, "show "+string(rune('A'+l.To)))
		}
	}
	return lines[:n]
}

// P81, P82
func TestDskRunOfManyLines(t *testing.T) {
	d := dice(82)
	count := map[string]int{}
	for round := range 150 {
		lines := d.run(d.roll(impl.DskMaxLines+1), 1+round%2)
		told := impl.DskRun(lines)
		if want := plainRun(lines); !slices.Equal(told, want) {
			t.Fatalf("DskRun of %q is %q, not %q", lines, told, want)
		}
		for _, text := range told {
			word, _, _ := strings.Cut(text, " ")
			count[word]++
		}
		for n := range lines {
			first := impl.DskRun(lines[:n])
			if len(first) > len(told) || !slices.Equal(first, told[:len(first)]) {
				t.Fatalf("DskRun of the first %d of %q is %q, of all %q", n, lines, first, told)
			}
			// Each line tells one thing or nothing.
			if next := impl.DskRun(lines[:n+1]); len(next) > len(first)+1 {
				t.Fatalf("the line %q tells %q behind %q", lines[n], next, first)
			}
		}
	}
	if count["line"] < 100 || count["too"] < 50 || count["0"] < 50 || len(count) < 100 {
		t.Fatalf("%d lines are none, %d are too much, %d show 0, %d are shown at all", count["line"], count["too"], count["0"], len(count))
	}
}

// The run of the document's section "Examples", and the beginnings of it.
func TestDskRunOfTheExample(t *testing.T) {
	lines := []string{"set A d", "set B x", "mul C A B", "show C", "apart C A B", "show C", "round D B", "show D", "set E xd+ye", "set F x3y", "do D E F", "show D", "mull A B C"}
	want := []string{"xd+1", "1", "d", "4x3y", "line 13"}
	for n, told := range []int{0, 0, 0, 0, 1, 1, 2, 2, 3, 3, 3, 3, 4, 5} {
		wantRun(t, lines[:n], want[:told]...)
	}
	// It does not end at a line that is none.
	wantRun(t, append(lines, "back F B", "show F", "show D"), append(want, "x", "4x3y")...)
}

func TestDskRunOfNoLines(t *testing.T) {
	wantRun(t, nil)
	wantRun(t, []string{})
	wantRun(t, []string{""}, "line 1")
	wantRun(t, []string{"", " ", "\n", "\xff", strings.Repeat("A", 1<<16)}, "line 1", "line 2", "line 3", "line 4", "line 5")
	wantRun(t, []string{"set A x"})
	wantRun(t, []string{"show A\nshow A", "show A"}, "line 1", "0")
}

func TestDskRunAtDskMaxLines(t *testing.T) {
	for n := 50; n <= 130; n++ {
		for _, text := range []string{"set A x", "show A", "show", "", "mul A A A"} {
			lines := slices.Repeat([]string{text}, n)
			if n > impl.DskMaxLines {
				wantRun(t, lines, "long")
				continue
			}
			wantRun(t, lines, plainRun(lines)...)
		}
	}
	shown := slices.Repeat([]string{"show A"}, impl.DskMaxLines)
	wantRun(t, shown, slices.Repeat([]string{"0"}, impl.DskMaxLines)...)
	wantRun(t, slices.Repeat([]string{"show A"}, 1<<16), "long")
	// The last line that may be counts.
	lines := append(slices.Repeat([]string{"add A A B"}, impl.DskMaxLines-2), "add A A B", "show A")
	lines[0] = "set B x"
	wantRun(t, lines, "58x")
	lines[impl.DskMaxLines-1] = "show"
	wantRun(t, lines, "line 60")
	lines[impl.DskMaxLines-1] = "do A B C "
	wantRun(t, lines, "line 60")
}

// A line that is none, and one that is too much, at each place: it is told by its number, and changes nothing.
func TestDskRunAtEachPlace(t *testing.T) {
	for n := 1; n <= impl.DskMaxLines; n++ {
		for place := range n {
			lines := slices.Repeat([]string{"add A A B"}, n)
			if n > 1 {
				lines[0], lines[n-1] = "set B d", "show A"
			}
			lines[place] = "mul A B b"
			wantRun(t, lines, plainRun(lines)...)
			if told := impl.DskRun(lines); !slices.Contains(told, "line "+strconv.Itoa(place+1)) {
				t.Fatalf("DskRun of %q is %q", lines, told)
			}
			lines[place] = "do A A B"
			wantRun(t, lines, plainRun(lines)...)
		}
	}
	wantRun(t, []string{"set A d", "do B A A", "show B", "sho B", "show A", "do A A A", "show A"}, "too much 2", "0", "line 4", "d", "too much 6", "d")
}

// P83
func TestDskRunShowsWhatWasSet(t *testing.T) {
	shown := 0
	for _, p := range somePols() {
		text := plainText(p)
		for to := range 6 {
			slot := string(rune('A' + to))
			if len(text) > 394 {
				wantRun(t, []string{"set " + slot + " " + text, "show " + slot}, "line 1", "0")
				continue
			}
			shown++
			wantRun(t, []string{"set " + slot + " " + text, "show " + slot}, text)
			wantRun(t, []string{"set " + slot + " x", "set " + slot + " " + text, "show " + slot, "show " + slot}, text, text)
			if text != impl.PolText(p) {
				t.Fatalf("PolText of %v is not %q", p, text)
			}
		}
	}
	if shown < 400 {
		t.Fatalf("only %d were shown", shown)
	}
	edge, beyond := plainText(longText(394)), plainText(longText(395))
	wantRun(t, []string{"set F " + edge, "show F", "set F " + beyond, "show F"}, edge, "line 3", edge)
}

// A slot that was never set is 0, and what goes to a slot goes to no other one.
func TestDskRunOfEachSlot(t *testing.T) {
	var shows []string
	for _, slot := range "ABCDEF" {
		shows = append(shows, "show "+string(slot))
	}
	wantRun(t, shows, "0", "0", "0", "0", "0", "0")
	for place, slot := range "ABCDEF" {
		want := []string{"0", "0", "0", "0", "0", "0"}
		want[place] = "2xd+y+100"
		wantRun(t, append([]string{"set " + string(slot) + " 2xd+y+100"}, shows...), want...)
	}
	// Of what was never set all is 0.
	for _, line := range []string{"add A B C", "mul A B C", "apart A B C", "do A B C", "round A B", "back A B", "set A 0"} {
		wantRun(t, append([]string{line}, shows...), "0", "0", "0", "0", "0", "0")
	}
	set := []string{"set A 1", "set B x", "set C y", "set D d", "set E e", "set F 100"}
	wantRun(t, append(set, shows...), "1", "x", "y", "d", "e", "100")
	// A slot may go to itself, and what was taken of it before stays as it was.
	wantRun(t, append(set, "add G B B", "mul B B B", "mul B B B", "add A B B", "set B y", "show A", "show B"), "line 7", "2x4", "y")
	wantRun(t, append(set, "round B B", "round B B", "round B B", "show B", "back D D", "show D"), "100d", "100d")
	wantRun(t, append(set, "apart D D B", "show D", "do E E C", "show E", "add F F A", "show F"), "1", "1", "0")
	wantRun(t, append(set, "set A 0", "show A", "set B 0", "show B"), "0", "0")
}

// What is too much leaves its slot as it was, whatever is too much, and however much was in the slot.
func TestDskRunTooMuch(t *testing.T) {
	sixteen := "x15+x14+x13+x12+x11+x10+x9+x8+x7+x6+x5+x4+x3+x2+x+1"
	crowd := crowds()[1]
	great := plainText(crowd.of(impl.PolMax-crowd.made+1, 0))
	square := plainText(manyTerms(256))
	lines := []string{
		"set A " + sixteen, "set B " + strings.ReplaceAll(sixteen, "x", "y"), "mul C A B", "show C",
		"set D d", "mul E C D", "show E",
		"set F 7", "add F C E", "show F", "mul F D C", "show F", "mul F A A", "show F", "apart F A B", "show F", "apart F A A", "show F",
		"do F D C", "do D A C", "show D", "do D C D", "show D",
		"set A " + great, "set B 5e", "round B A", "show B", "back B A", "show B", "add B B B", "show B",
	}
	told := impl.DskRun(lines)
	if !slices.Equal(told, plainRun(lines)) || len(told) < 3 || told[0] != square || len(square) < 400 {
		t.Fatalf("DskRun of %q is %q", lines, told)
	}
	var short []string
	for _, text := range told {
		if len(text) < 15 {
			short = append(short, text)
		}
	}
	want := []string{"too much 9", "7", "too much 11", "7", "too much 13", "7", "0", "too much 17", "0", "too much 20", "d", "too much 22", "d", "too much 26", "5e", "too much 28", "5e", "10e"}
	if !slices.Equal(short, want) {
		t.Fatalf("what is told is %q, not %q", short, want)
	}
}

func TestDskRunNewMemory(t *testing.T) {
	d := dice(83)
	runs := [][]string{nil, {"show A"}, {"set A x", "show A", "show"}, slices.Repeat([]string{"show A"}, impl.DskMaxLines), slices.Repeat([]string{"show A"}, impl.DskMaxLines+1)}
	for range 50 {
		runs = append(runs, d.run(d.roll(30), 2))
	}
	for _, lines := range runs {
		room := append(slices.Clone(lines), slices.Repeat([]string{"mark"}, 70)...)
		arg := room[:len(lines)]
		first, second := impl.DskRun(arg), impl.DskRun(arg)
		wantOwnMemory(t, []span{spanOf(first)}, []span{spanOf(room), spanOf(second)}, "DskRun")
		kept := slices.Clone(first)
		for place := range second[:cap(second)] {
			second[:cap(second)][place] = "scribble"
		}
		if !slices.Equal(first, kept) || !slices.Equal(arg, lines) {
			t.Fatalf("DskRun of %q shares memory, or writes into it", lines)
		}
		if slices.ContainsFunc(room[len(lines):], func(text string) bool { return text != "mark" }) {
			t.Fatalf("DskRun of %q writes behind its end", lines)
		}
		// Nothing is kept between two calls.
		wantRun(t, []string{"show A", "show F"}, "0", "0")
	}
}
