package tasks_test

import (
	"slices"
	"strings"
	"testing"

	"punctual/api"
	"punctual/tasks"
)

const ordinary = "a 1 4 4 0 0 3\nb 2 6 6 1 2 2\n"

func TestPrint(t *testing.T) {
	for _, c := range []struct {
		set  []api.Task
		want string
	}{
		{[]api.Task{{Name: "a", C: 1, T: 4, D: 4, P: 3}, {Name: "b", C: 2, T: 6, D: 6, J: 1, O: 2, P: 2}}, ordinary},
		{[]api.Task{{Name: "x", C: 1, T: 2, D: 3, J: 4, O: 5, P: 6}}, "x 1 2 3 4 5 6\n"},
		{[]api.Task{plain("z", 1, 1, 1)}, "z 1 1 1 0 0 0\n"},
		{[]api.Task{{Name: "qwertyuiop", C: 10000, T: 10000, D: 10000, J: 10000, O: 10000, P: 1000}}, "qwertyuiop 10000 10000 10000 10000 10000 1000\n"},
		{[]api.Task{plain("b", 1, 1, 1), plain("a", 1, 1, 1)}, "b 1 1 1 0 0 0\na 1 1 1 0 0 0\n"},
	} {
		if got := tasks.Print(c.set); got != c.want {
			t.Errorf("%v: %q, want %q", c.set, got, c.want)
		}
		wantParse(t, c.want, c.set, api.Fault{})
	}
}

func TestParseWhatPrintWrote(t *testing.T) {
	m := newMaker(3)
	for _, most := range []int{3, 12, 150, api.MaxTime} {
		for range 1000 {
			set := m.set(most)
			text := tasks.Print(set)
			if strings.Count(text, "\n") != len(set) {
				t.Fatalf("%v: %q", set, text)
			}
			wantParse(t, text, set, api.Fault{})
		}
	}
	printed := 0
	for range 5000 {
		set := m.edges()
		text := tasks.Print(set)
		if otherCheck(set).Code != api.OK {
			continue
		}
		printed++
		wantParse(t, text, set, api.Fault{})
	}
	if printed < 500 {
		t.Errorf("%d sets", printed)
	}
}

func TestParseOneLine(t *testing.T) {
	for _, c := range []struct {
		line string
		want api.Errno
	}{
		{"a 1 4 4 0 0 3", api.OK},
		{"a 1 4 4 0 0 0", api.OK},
		{"a 10000 10000 10000 10000 10000 1000", api.OK},
		// numbers that Check refuses, but that are written as numbers are
		{"a 0 4 4 0 0 3", api.ErrRange},
		{"a 1 0 4 0 0 3", api.ErrRange},
		{"a 1 4 0 0 0 3", api.ErrRange},
		{"a 10001 4 4 0 0 3", api.ErrRange},
		{"a 1 99999 4 0 0 3", api.ErrRange},
		{"a 1 4 10001 0 0 3", api.ErrRange},
		{"a 1 4 4 10001 0 3", api.ErrRange},
		{"a 1 4 4 0 10001 3", api.ErrRange},
		{"a 1 4 4 0 0 1001", api.ErrRange},
		{"a 5 4 4 0 0 3", api.ErrOrder},
		// numbers that aren't written so
		{"a 100000 4 4 0 0 3", api.ErrText},
		{"a 1 4 4 0 0 000003", api.ErrText},
		{"a 1 4 4 0 0 100000", api.ErrText},
		{"a 1 4 4 0 0 99999999999999999999999", api.ErrText},
		{"a 01 4 4 0 0 3", api.ErrText},
		{"a 1 04 4 0 0 3", api.ErrText},
		{"a 1 4 04 0 0 3", api.ErrText},
		{"a 1 4 4 00 0 3", api.ErrText},
		{"a 1 4 4 0 00 3", api.ErrText},
		{"a 1 4 4 0 0 03", api.ErrText},
		{"a 1 4 4 0 0 00", api.ErrText},
		{"a -1 4 4 0 0 3", api.ErrText},
		{"a +1 4 4 0 0 3", api.ErrText},
		{"a 1 4 4 -0 0 3", api.ErrText},
		{"a 1 4 4 0 +0 3", api.ErrText},
		{"a 1 4 4 0 0 -3", api.ErrText},
		{"a 1 4 4 0 0 +3", api.ErrText},
		{"a 1. 4 4 0 0 3", api.ErrText},
		{"a 1_0 4 4 0 0 3", api.ErrText},
		{"a 0x1 4 4 0 0 3", api.ErrText},
		{"a 1e1 4 4 0 0 3", api.ErrText},
		{"a x 4 4 0 0 3", api.ErrText},
		{"a 1 4 4 0 0 :", api.ErrText},
		{"a 1 4 4 0 0 /", api.ErrText},
		{"a ١ 4 4 0 0 3", api.ErrText},
		{"a 1 4 4 0 0 ３", api.ErrText},
		{"a 1 4 4 0 0 \xff", api.ErrText},
		{"a 1 4 4 0 0 3\x00", api.ErrText},
		{"a 1 4 4 0 0 3\r", api.ErrText},
		{"a 1 4 4 0 0 3\t", api.ErrText},
		// blanks too many, too few, or others
		{" a 1 4 4 0 0 3", api.ErrText},
		{"a  1 4 4 0 0 3", api.ErrText},
		{"a 1 4  4 0 0 3", api.ErrText},
		{"a 1 4 4 0 0  3", api.ErrText},
		{"a 1 4 4 0 0 3 ", api.ErrText},
		{"a1 4 4 0 0 3", api.ErrText},
		{"a 1 44 0 0 3", api.ErrText},
		{"a 1 4 4 0 03", api.ErrText},
		{"a\t1 4 4 0 0 3", api.ErrText},
		{"a 1 4\t4 0 0 3", api.ErrText},
		{"a\u00a01 4 4 0 0 3", api.ErrText},
		{"a 1 4 4 0 0\u00a03", api.ErrText},
		{"a 1 4 4 0 0 ", api.ErrText},
		{"a 1 4 4 0 0", api.ErrText},
		{"a 1 4 4 0 0 3 3", api.ErrText},
		{"a b 1 4 4 0 0 3", api.ErrText},
		{"a", api.ErrText},
		{"1 4 4 0 0 3", api.ErrText},
		{"", api.ErrText},
		{" ", api.ErrText},
		{"      ", api.ErrText},
		{"       ", api.ErrText},
		// names that Check refuses
		{" 1 4 4 0 0 3", api.ErrName},
		{"A 1 4 4 0 0 3", api.ErrName},
		{"7 1 4 4 0 0 3", api.ErrName},
		{"a_ 1 4 4 0 0 3", api.ErrName},
		{"ä 1 4 4 0 0 3", api.ErrName},
		{"\xff 1 4 4 0 0 3", api.ErrName},
		{"a\r 1 4 4 0 0 3", api.ErrName},
		{"qwertyuiopa 1 4 4 0 0 3", api.ErrName},
		{"qwertyuiop 1 4 4 0 0 3", api.OK},
		{"A 01 4 4 0 0 3", api.ErrText},
	} {
		at := 0
		for _, ahead := range []string{"", "b 1 1 1 0 0 0\n", "b 1 1 1 0 0 0\nc 1 1 1 0 0 0\n"} {
			for _, behind := range []string{"", "d 1 1 1 0 0 0\n"} {
				_, f := tasks.Parse(ahead + c.line + "\n" + behind)
				if want := (api.Fault{Code: c.want, At: at}); c.want == api.OK && f != (api.Fault{}) || c.want != api.OK && f != want {
					t.Errorf("%q ahead, %q: %v, want %v", ahead, c.line, f, want)
				}
			}
			// Without its line feed no line is one.
			if c.line != "" {
				wantParse(t, ahead+c.line, nil, fault(api.ErrText, at))
			}
			at++
		}
	}
}

// TestParseTellsTheFirst: what isn't written so is told ahead of all that Check says.
func TestParseTellsTheFirst(t *testing.T) {
	wantParse(t, "", nil, fault(api.ErrMany, 0))
	wantParse(t, "\n", nil, fault(api.ErrText, 0))
	wantParse(t, "\n\n", nil, fault(api.ErrText, 0))
	wantParse(t, ordinary+"\n", nil, fault(api.ErrText, 2))
	wantParse(t, "\n"+ordinary, nil, fault(api.ErrText, 0))
	wantParse(t, "a 1 4 4 0 0 3\n\nb 1 4 4 0 0 3\n", nil, fault(api.ErrText, 1))
	wantParse(t, "a 1 4 4 0 0 3\r\n", nil, fault(api.ErrText, 0))
	wantParse(t, "A 1 4 4 0 0 3\na 01 4 4 0 0 3\n", nil, fault(api.ErrText, 1))
	wantParse(t, "a 0 4 4 0 0 3\na 1 4 4 0 0 3", nil, fault(api.ErrText, 1))
	wantParse(t, "a 1 4 4 0 0\na 1 4 4 0 0 3", nil, fault(api.ErrText, 0))
	wantParse(t, "a 1 4 4 0 0 3\na 1 4 4 0 0 3", nil, fault(api.ErrText, 1))
	wantParse(t, ordinary+"a 1 4 4 0 0 3\n", nil, fault(api.ErrTwice, 2))
	wantParse(t, ordinary+"c 0 4 4 0 0 3\nC 1 1 1 0 0 0\n", nil, fault(api.ErrRange, 2))
	eight := tasks.Print(several(api.MaxTasks))
	wantParse(t, eight, several(api.MaxTasks), api.Fault{})
	wantParse(t, eight+"a 1 1 1 0 0 0\n", nil, fault(api.ErrMany, 0))
	wantParse(t, eight+"A 0 0 0 0 0 0\n", nil, fault(api.ErrMany, 0))
	wantParse(t, eight+"a 1 1 1 0 0 0\n ", nil, fault(api.ErrText, 9))
	wantParse(t, eight+"a 1 1 1 0 0 00\n", nil, fault(api.ErrText, 8))
}

func TestParseLongTexts(t *testing.T) {
	const rest = " 1 1 1 0 0 0\n"
	long := func(n int) string { return strings.Repeat("a", n-len(rest)) + rest }
	wantParse(t, long(api.MaxText), nil, fault(api.ErrName, 0))
	wantParse(t, long(api.MaxText+1), nil, fault(api.ErrMany, 0))
	wantParse(t, strings.Repeat("\n", api.MaxText), nil, fault(api.ErrText, 0))
	wantParse(t, strings.Repeat("\n", api.MaxText+1), nil, fault(api.ErrMany, 0))
	wantParse(t, strings.Repeat(" ", api.MaxText), nil, fault(api.ErrText, 0))
	wantParse(t, strings.Repeat("1", api.MaxText), nil, fault(api.ErrText, 0))
	wantParse(t, "a "+strings.Repeat("1", api.MaxText-3)+"\n", nil, fault(api.ErrText, 0))
	wantParse(t, ordinary+strings.Repeat(" ", api.MaxText), nil, fault(api.ErrMany, 0))
	line := "b 2 6 6 1 2 2\n"
	n := api.MaxText / len(line)
	wantParse(t, strings.Repeat(line, n), nil, fault(api.ErrMany, 0))
	wantParse(t, strings.Repeat(line, n)+"x", nil, fault(api.ErrText, n))
	wantParse(t, strings.Repeat(line, n-1)+long(len(line)+api.MaxText%len(line)), nil, fault(api.ErrMany, 0))
	wantParse(t, strings.Repeat(line, n-1)+long(len(line)+api.MaxText%len(line)+1), nil, fault(api.ErrMany, 0))
	wantParse(t, strings.Repeat(line, n)+line, nil, fault(api.ErrMany, 0))
}

// TestParseNearlyTexts: one byte of a text is left out, put in or another, everywhere.
func TestParseNearlyTexts(t *testing.T) {
	seen := map[api.Errno]int{}
	see := func(text string) {
		want, f := otherParse(text)
		seen[f.Code]++
		wantParse(t, text, want, f)
	}
	m := newMaker(4)
	texts := []string{ordinary, "x 1 2 3 4 5 6\n", "qwertyuiop 9999 10000 10000 9999 9999 1000\n", "aa 10 20 30 0 50 60\nab 10 20 30 0 50 60\nac 10 20 30 0 0 0\n", "a 1 1 1 0 0 0\naa 1 1 1 0 0 0\naaa 1 1 1 0 0 0\n"}
	for range 20 {
		texts = append(texts, tasks.Print(m.set(m.one(3, 20, 10000))))
	}
	signs := []string{"0", "1", "9", "a", "z", "A", " ", "\n", "-", "+", "/", ":", "`", "{", "\x00", "\x80", "ä", "\t", "\r", "."}
	for _, text := range texts {
		for i := range len(text) + 1 {
			for _, s := range signs {
				see(text[:i] + s + text[i:])
				if i < len(text) {
					see(text[:i] + s + text[i+1:])
				}
			}
			see(text[:i])
			see(text[i:])
			if i < len(text) {
				see(text[:i] + text[i+1:])
			}
		}
	}
	for _, code := range []api.Errno{api.OK, api.ErrText, api.ErrName, api.ErrTwice, api.ErrRange, api.ErrOrder, api.ErrMany} {
		if seen[code] < 10 {
			t.Errorf("%v was seen %d times", code, seen[code])
		}
	}
}

// TestParseShortLines: all ways to lay seven words, of some, into a line.
func TestParseShortLines(t *testing.T) {
	words := []string{"", "a", "0", "1", "01"}
	right := 0
	var all func(l []string)
	all = func(l []string) {
		if len(l) == 7 {
			text := strings.Join(l, " ") + "\n"
			want, f := otherParse(text)
			if f.Code != api.ErrText {
				right++
			}
			wantParse(t, text, want, f)
			return
		}
		for _, w := range words {
			all(append(slices.Clip(l), w))
		}
	}
	all(nil)
	if right != len(words)<<6 {
		t.Errorf("%d lines are written so", right)
	}
}
