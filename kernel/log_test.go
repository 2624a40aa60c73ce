package kernel_test

import (
	"fmt"
	"math"
	"regexp"
	"slices"
	"strings"
	"testing"

	"punctual/api"
	"punctual/kernel"
)

// wantText: does Print write it so, and does Parse read it back?
func wantText(t *testing.T, log []api.Event, want string) {
	t.Helper()
	if got := kernel.Print(log); got != want {
		t.Errorf("Print: %.300q, want %.300q (%.300s)", got, want, fmt.Sprint(log))
	}
	wantLog(t, want, log)
}

func wantLog(t *testing.T, text string, want []api.Event) {
	t.Helper()
	if got, f := kernel.Parse(text); f != (api.Fault{}) || !slices.Equal(got, want) {
		t.Errorf("Parse(%.300q): %.300s %v, want %.300s", text, fmt.Sprint(got), f, fmt.Sprint(want))
	}
}

func wantNoLog(t *testing.T, text string, at int) {
	t.Helper()
	if got, f := kernel.Parse(text); f != fault(api.ErrText, at) || got != nil {
		t.Errorf("Parse(%.300q): %.300s %v, want line %d", text, fmt.Sprint(got), f, at)
	}
}

func event(at, kind, task, m, n int) api.Event {
	return api.Event{At: at, Kind: kind, Task: task, M: m, N: n}
}

func TestPrint(t *testing.T) {
	wantText(t, nil, "")
	wantText(t, []api.Event{}, "")
	for kind, word := range kinds() {
		if kind > 0 && kind < api.EvPut {
			wantText(t, []api.Event{event(7, kind, 2, 0, 31)}, "7 "+word+" 2 31\n")
		}
	}
	wantText(t, []api.Event{event(7, api.EvPut, 2, 1, 31)}, "7 put 2 1 31\n")
	wantText(t, []api.Event{event(7, api.EvPut, 2, 1, -31)}, "7 put 2 1 -31\n")
	wantText(t, []api.Event{event(0, api.EvPut, 0, 0, 0)}, "0 put 0 0 0\n")
	wantText(t, []api.Event{event(10, api.EvCome, 0, 0, 0), event(10, api.EvRun, 0, 0, 10), event(205, api.EvDone, 7, 0, 0)}, "10 come 0 0\n10 run 0 10\n205 done 7 0\n")
	// What is told in this order never happens so: that isn't asked.
	wantText(t, []api.Event{event(3, api.EvDone, 1, 0, 9), event(3, api.EvDone, 1, 0, 9), event(3, api.EvCome, 1, 0, 9)}, "3 done 1 9\n3 done 1 9\n3 come 1 9\n")
}

// TestPrintRanges: each number of an event at both ends of its range, and beyond.
func TestPrintRanges(t *testing.T) {
	farthest := []int{math.MinInt, math.MaxInt}
	for kind := api.EvCome; kind <= api.EvPut; kind++ {
		good := event(5, kind, 2, 0, 3)
		for _, c := range []struct {
			what        string
			of          func(e *api.Event) *int
			least, most int
		}{
			{"At", func(e *api.Event) *int { return &e.At }, 0, api.MaxUntil},
			{"Task", func(e *api.Event) *int { return &e.Task }, 0, api.MaxTasks - 1},
			{"M", func(e *api.Event) *int { return &e.M }, 0, map[bool]int{true: 3}[kind == api.EvPut]},
			{"N", func(e *api.Event) *int { return &e.N }, 0, api.MaxJobs - 1},
		} {
			least, most := c.least, c.most
			if kind == api.EvPut && c.what == "N" {
				least, most = math.MinInt, math.MaxInt
			}
			for _, n := range append(farthest, c.least-1, c.least, c.least+1, c.most-1, c.most, c.most+1) {
				e := good
				*c.of(&e) = n
				if n >= least && n <= most {
					wantText(t, []api.Event{e}, written([]api.Event{e}))
					continue
				}
				wantNoText(t, c.what, e)
			}
		}
	}
	for _, kind := range []int{0, -1, 7, 8, math.MinInt, math.MaxInt} {
		wantNoText(t, "Kind", event(5, kind, 2, 0, 3))
	}
}

// wantNoText: is nothing written where one event can't stand, wherever it does? Nor is what would be written read.
func wantNoText(t *testing.T, what string, e api.Event) {
	t.Helper()
	before, behind := event(0, api.EvPut, 1, 2, 3), event(api.MaxUntil, api.EvKill, 1, 0, 3)
	for at, log := range [][]api.Event{{e, behind}, {before, e, behind}, {before, before, e}} {
		if got := kernel.Print(log); got != "" {
			t.Errorf("Print, %s: %.300q (%v)", what, got, log)
		}
		if e.Kind >= 1 && e.Kind <= 6 && (e.Kind == api.EvPut || e.M == 0) {
			wantNoLog(t, written(log), at)
		}
	}
}

// TestPrintOrder: no At is below that of the one ahead.
func TestPrintOrder(t *testing.T) {
	for _, c := range []struct {
		ats []int
		bad int // the first one that is below the one ahead; 0: none
	}{
		{ints(0, 0), 0}, {ints(0, 1), 0}, {ints(1, 0), 1}, {ints(3, 3, 3), 0}, {ints(3, 4, 3), 2}, {ints(3, 2, 3), 1},
		{ints(0, api.MaxUntil, api.MaxUntil), 0}, {ints(0, api.MaxUntil, api.MaxUntil-1), 2}, {ints(9, 5, 4, 3), 1}, {ints(5, 9, 8, 8), 2},
	} {
		var log []api.Event
		for i, at := range c.ats {
			log = append(log, event(at, 1+i, i, 0, 9-i))
		}
		if c.bad == 0 {
			wantText(t, log, written(log))
			continue
		}
		if got := kernel.Print(log); got != "" {
			t.Errorf("%v: %q", c.ats, got)
		}
		wantNoLog(t, written(log), c.bad)
	}
}

func TestParse(t *testing.T) {
	wantLog(t, "", nil)
	wantLog(t, "0 come 1 0\n0 run 1 0\n2 come 0 1\n11 put 1 2 5\n", events("0 come 1 0, 0 run 1 0, 2 come 0 1, 11 put 1 2 5"))
	wantLog(t, "20000 put 7 3 -9223372036854775808\n20000 late 7 3999\n", []api.Event{event(20000, 6, 7, 3, math.MinInt), event(20000, 5, 7, 0, 3999)})
	for _, bad := range []string{
		// The end of the line.
		"1 run 0 0", "1 put 0 0 0", "1 run 0 0\r\n", "1 run 0 0 \n", "1 run 0 0;\n", "1 run 0 0\x00\n", "1 run 0 0\v", "1 run 0 0\r",
		// Nothing, or too little.
		"\n", " \n", " ", "\n\n", "1\n", "1 \n", "1 run\n", "1 run \n", "1 run 0\n", "1 run 0 \n", "run 0 0\n", "1 0 0\n", "1 put 0 0\n", "1 put 0\n", "x",
		// Too much.
		"1 run 0 0 0\n", "1 come 0 0 0\n", "1 put 0 0 0 0\n", "1 run run 0 0\n", "1 1 run 0 0\n", "1 run 0 0 1 run 0 0\n",
		// Blanks.
		" 1 run 0 0\n", "1  run 0 0\n", "1 run  0 0\n", "1 run 0  0\n", "1 run 0 0  \n", "1\trun 0 0\n", "1 run 0\t0\n", "1 put 0  0 0\n", "1 run\u00a00 0\n",
		// Words.
		"1 Run 0 0\n", "1 RUN 0 0\n", "1 runs 0 0\n", "1 ru 0 0\n", "1 stop 0 0\n", "1 2 0 0\n", "1 - 0 0\n", "1 - - -\n", "1 dòne 0 0\n", "1 com 0 0\n", "1 puts 0 0 0\n",
		// Numbers.
		"+1 run 0 0\n", "-1 run 0 0\n", "-0 run 0 0\n", "01 run 0 0\n", "00 run 0 0\n", "1 run +0 0\n", "1 run 00 0\n", "1 run -0 0\n", "1 run 0 +0\n", "1 run 0 00\n", "1 run 0 -0\n", "1 run 0 -1\n",
		"1 put 0 +1 0\n", "1 put 0 01 0\n", "1 put 0 -1 0\n", "1 put 0 0 +1\n", "1 put 0 0 -0\n", "1 put 0 0 00\n", "1 put 0 0 07\n", "1 put 0 0 -07\n", "1 put 0 0 --7\n", "1 put 0 0 -\n", "1 put 0 0 - 7\n",
		"1 put 0 0 9223372036854775808\n", "1 put 0 0 -9223372036854775809\n", "1 put 0 0 99999999999999999999999\n", "1 run 0 99999999999999999999999\n", "1 run 18446744073709551616 0\n", "18446744073709551617 run 0 0\n",
		"1 put 0 0 1_000\n", "1 put 0 0 0x1\n", "1 put 0 0 1e3\n", "1 put 0 0 1.0\n", "1 run 0 1a\n", "1a run 0 0\n", "１ run 0 0\n", "1 run 0 ٣\n", "1 put 0 0 −1\n",
	} {
		wantNoLog(t, bad, 0)
		wantNoLog(t, bad+"1 run 0 0\n", 0)
		wantNoLog(t, "0 run 0 0\n"+bad, 1)
		wantNoLog(t, "0 run 0 0\n0 put 7 3 -12\n1 done 0 3\n"+bad+"2 run 0 0\nx", 3)
	}
	wantNoLog(t, "1", 0)
	// The first wrong one of several.
	wantNoLog(t, "0 run 0 0\nx\ny\n", 1)
	wantNoLog(t, "5 run 0 0\n4 run 0 0\n\n", 1)
	wantNoLog(t, "5 run 0 0\n6 run 9 0\n4 run 0 0\n", 1)
}

// TestParseLong: no length is too great.
func TestParseLong(t *testing.T) {
	line := "20000 put 7 3 -9223372036854775808\n"
	text := strings.Repeat(line, 100000)
	log, f := kernel.Parse(text)
	if f != (api.Fault{}) || len(log) != 100000 || kernel.Print(log) != text {
		t.Errorf("%d lines, %v", len(log), f)
	}
	wantNoLog(t, text+line[1:], 100000)
	wantNoLog(t, text[:len(text)-1], 99999)
	wantNoLog(t, text+strings.Repeat(" ", 1000000)+"\n", 100000)
	wantNoLog(t, text+"20000 put 7 3 "+strings.Repeat("1", 1000000)+"\n", 100000)
}

// otherLine is an event whose line it is, by itself, in another way.
func otherLine(line string) (api.Event, bool) {
	form := plainLine
	if strings.Contains(line, "put") {
		form = putLine
	}
	l := form.FindStringSubmatch(line)
	if l == nil {
		return api.Event{}, false
	}
	if form == plainLine {
		l = slices.Insert(l, 4, "0")
	}
	e := api.Event{Kind: slices.Index(kinds(), l[2])}
	for i, n := range []*int{&e.At, nil, &e.Task, &e.M, &e.N} {
		if n == nil {
			continue
		}
		if _, err := fmt.Sscan(l[1+i], n); err != nil {
			return api.Event{}, false
		}
	}
	return e, e.At <= 20000 && e.Task <= 7 && (e.Kind == 6 && e.M <= 3 || e.Kind < 6 && e.N <= 3999)
}

var (
	plainLine = regexp.MustCompile(`\A(0|[1-9][0-9]*) (come|run|done|kill|late) (0|[1-9][0-9]*) (0|[1-9][0-9]*)\z`)
	putLine   = regexp.MustCompile(`\A(0|[1-9][0-9]*) (put) (0|[1-9][0-9]*) (0|[1-9][0-9]*) (0|-?[1-9][0-9]*)\z`)
)

// otherParse reads line by line, in another way.
func otherParse(text string) ([]api.Event, api.Fault) {
	lines := strings.SplitAfter(text, "\n")
	if lines[len(lines)-1] == "" {
		lines = lines[:len(lines)-1]
	}
	var log []api.Event
	last := 0
	for i, line := range lines {
		e, ok := otherLine(strings.TrimSuffix(line, "\n"))
		if !ok || e.At < last || !strings.HasSuffix(line, "\n") {
			return nil, fault(api.ErrText, i)
		}
		log, last = append(log, e), e.At
	}
	return log, api.Fault{}
}

// TestParseLines: all lines of some pieces.
func TestParseLines(t *testing.T) {
	numbers := []string{"0", "3", "4", "7", "8", "3999", "4000", "20000", "20001", "-1", "-0", "01", "+1", "", "9223372036854775807", "9223372036854775808", "-9223372036854775808"}
	good := 0
	see := func(parts ...string) {
		line := strings.Join(parts, " ")
		want, ok := otherLine(line)
		if !ok {
			wantNoLog(t, line+"\n", 0)
			return
		}
		good++
		wantLog(t, line+"\n", []api.Event{want})
	}
	for _, a := range numbers {
		for _, word := range []string{"come", "run", "done", "kill", "late", "put", "", "-"} {
			for _, b := range numbers {
				for _, c := range numbers {
					see(a, word, b, c)
					for _, d := range numbers {
						if word == "put" || word == "kill" {
							see(a, word, b, c, d)
						}
					}
				}
			}
		}
	}
	// There are 8 numbers that At may be, 4 that Task may be, 6 that N may be; of put 2 that M may be, and 12 that may go out.
	if good != 5*8*4*6+8*4*2*12 {
		t.Errorf("%d lines", good)
	}
}

// TestParseMade: made logs there and back, and texts that were changed in a place.
func TestParseMade(t *testing.T) {
	m := newMaker(3)
	good, bad := 0, 0
	for range 20000 {
		var log []api.Event
		at := 0
		for range m.Intn(6) {
			at = min(api.MaxUntil, at+m.one(0, 0, 1, m.Intn(9000)))
			e := event(at, m.within(1, 6), m.Intn(8), 0, m.one(0, m.Intn(10), 3999))
			if e.Kind == api.EvPut {
				e.M, e.N = m.Intn(4), m.numbers(1)[0]
			}
			log = append(log, e)
		}
		text := written(log)
		wantText(t, log, text)
		for range 3 {
			changed := m.change(text)
			want, f := otherParse(changed)
			got, g := kernel.Parse(changed)
			if f != g || !slices.Equal(got, want) || f.Code != api.OK && got != nil {
				t.Fatalf("Parse(%q): %v %v, want %v %v", changed, got, g, want, f)
			}
			if f.Code != api.OK {
				bad++
				continue
			}
			good++
			if kernel.Print(got) != changed {
				t.Fatalf("Print: %q, want %q", kernel.Print(got), changed)
			}
		}
	}
	if good < 5000 || bad < 5000 {
		t.Errorf("%d read, %d not", good, bad)
	}
}

// change is a text with another byte, one more or one less, or with two lines the other way round.
func (m *maker) change(text string) string {
	at := m.Intn(len(text) + 1)
	some := "0123456789 -+\nrun"
	one := string(some[m.Intn(len(some))])
	switch {
	case m.Intn(4) == 0:
		lines := strings.SplitAfter(text, "\n")
		a, b := m.Intn(len(lines)), m.Intn(len(lines))
		lines[a], lines[b] = lines[b], lines[a]
		return strings.Join(lines, "")
	case at == len(text) || m.Intn(3) == 0:
		return text[:at] + one + text[at:]
	case m.Intn(2) == 0:
		return text[:at] + text[at+1:]
	}
	return text[:at] + one + text[at+1:]
}

// FuzzParse: what Parse takes is what Print writes, and the other way takes the same.
func FuzzParse(f *testing.F) {
	for _, text := range []string{"", "0 come 1 0\n", "11 put 1 2 -5\n11 done 1 0\n", "1 late 0 0\n0 kill 0 0\n"} {
		f.Add(text)
	}
	f.Fuzz(func(t *testing.T, text string) {
		want, f := otherParse(text)
		got, g := kernel.Parse(text)
		if f != g || !slices.Equal(got, want) {
			t.Fatalf("Parse(%q): %v %v, want %v %v", text, got, g, want, f)
		}
		if f.Code == api.OK && kernel.Print(got) != text {
			t.Fatalf("Print: %q, want %q", kernel.Print(got), text)
		}
	})
}

// wantReplay: does Replays say so?
func wantReplay(t *testing.T, what string, l []api.Loaded, comes []api.Come, in []int, until int, log []api.Event, want bool) {
	t.Helper()
	if got, f := kernel.Replays(l, comes, in, until, log); f != (api.Fault{}) || got != want {
		t.Errorf("Replays, %s: %v %v, want %v", what, got, f, want)
	}
}

func TestReplays(t *testing.T) {
	l := loads(loaded("a", 7, 20, 2, "lock 0, work 1, unlock 0, in 1, out 2"), loaded("b", 8, 30, 1, "lock 0, work 3, unlock 0, push 5, out 2, work 9"))
	comes, in := come(1, 0, 0, 2, 0, 22), ints(0, 44, 0, 0)
	log, _ := kernel.Run(l, comes, in, 30)
	if len(log) < 10 {
		t.Fatal(log)
	}
	wantReplay(t, "its own log", l, comes, in, 30, log, true)
	read, _ := kernel.Parse(kernel.Print(log))
	wantReplay(t, "its own log, read", l, comes, in, 30, read, true)
	for i := range log {
		less := slices.Delete(slices.Clone(log), i, i+1)
		wantReplay(t, fmt.Sprint("one less: ", i), l, comes, in, 30, less, false)
		wantReplay(t, fmt.Sprint("one more: ", i), l, comes, in, 30, slices.Insert(slices.Clone(log), i, log[i]), false)
		for field := range 5 {
			changed := slices.Clone(log)
			e := &changed[i]
			*[]*int{&e.At, &e.Kind, &e.Task, &e.M, &e.N}[field]++
			wantReplay(t, fmt.Sprint("one changed: ", i, " ", field), l, comes, in, 30, changed, false)
		}
		for k := range i {
			turned := slices.Clone(log)
			turned[i], turned[k] = turned[k], turned[i]
			wantReplay(t, fmt.Sprint("two the other way round: ", i, " ", k), l, comes, in, 30, turned, false)
		}
	}
	wantReplay(t, "none", l, comes, in, 30, nil, false)
	wantReplay(t, "one more at the end", l, comes, in, 30, append(slices.Clip(log), api.Event{}), false)
	wantReplay(t, "another until", l, comes, in, 24, log, false)
	wantReplay(t, "other inputs", l, comes, make([]int, 4), 30, log, false)
	wantReplay(t, "other comings", l, comes[:2], in, 30, log, false)
	wantReplay(t, "others that take part", l[:1], nil, in, 30, log, false)
	wantReplay(t, "nothing, nil", l, nil, in, 30, nil, true)
	wantReplay(t, "nothing, empty", l, comes, in, 0, []api.Event{}, true)
	wantReplay(t, "something, where nothing happens", l, nil, in, 30, log[:1], false)
	for _, n := range []int{3, 5} {
		if ok, f := kernel.Replays(l, comes, make([]int, n), 30, log); ok || f != fault(api.ErrRange, 0) {
			t.Errorf("%d inputs: %v %v", n, ok, f)
		}
	}
	if ok, f := kernel.Replays(nil, comes, in, 30, log); ok || f != fault(api.ErrMany, 0) {
		t.Errorf("no tasks: %v %v", ok, f)
	}
	if ok, f := kernel.Replays(l, come(2, 0), in, 30, log); ok || f != fault(api.ErrName, 0) {
		t.Errorf("no such task: %v %v", ok, f)
	}
}
