package fixed_test

import (
	"math"
	"slices"
	"testing"

	"punctual/api"
	"punctual/fixed"
)

func TestResponsesOfTheDocument(t *testing.T) {
	wantResponses(t, "three", three(), none(3), []int{1, 3, 10}, api.Fault{})
	for i, want := range []int{1, 3, 10} {
		wantResponse(t, "three", three(), i, 0, want, api.Fault{})
	}
}

func TestResponseOfOneTask(t *testing.T) {
	for _, c := range []struct {
		t           api.Task
		block, want int // 0: none
	}{
		{due(1, 1, 1, 0), 0, 1},
		{due(1, 1, 1, 0), 1, 0},
		{due(3, 9, 7, 5), 0, 3},
		{due(3, 9, 7, 5), 4, 7},
		{due(3, 9, 7, 5), 5, 0},
		{due(3, 9, 7, 5), api.MaxTime, 0},
		{due(7, 9, 7, 5), 0, 7},
		{due(7, 9, 7, 5), 1, 0},
		{late(3, 7, 4, 5), 0, 7},
		{late(3, 7, 4, 5), 1, 0},
		{late(3, 7, 3, 5), 1, 7},
		{late(3, 7, 5, 5), 0, 0},
		{late(7, 7, 1, 5), 0, 0},
		{late(1, 10000, 9999, 5), 0, 10000},
		{late(1, 10000, 10000, 5), 0, 0},
		{late(1, 10000, 0, 1000), 9999, 10000},
		{late(1, 10000, 0, 1000), 10000, 0},
		{task(10000, 10000, 1000), 0, 10000},
		{task(10000, 10000, 1000), 1, 0},
	} {
		f := api.Fault{}
		if c.want == 0 {
			f = fault(api.ErrNone, 0)
		}
		wantResponse(t, "one task", named(c.t), 0, c.block, c.want, f)
	}
}

func TestResponseJustAtD(t *testing.T) {
	// The last one takes 10 ticks at worst.
	for d := 3; d <= 12; d++ {
		set := changed(three(), 2, func(t *api.Task) { t.D = d })
		if d >= 10 {
			wantResponse(t, "D is enough", set, 2, 0, 10, api.Fault{})
		} else {
			wantResponse(t, "D is too little", set, 2, 0, 0, fault(api.ErrNone, 2))
		}
	}
	for j := 0; j <= 4; j++ {
		set := changed(three(), 2, func(t *api.Task) { t.J = j })
		if j <= 2 {
			wantResponse(t, "J of its own", set, 2, 0, 10+j, api.Fault{})
		} else {
			wantResponse(t, "J of its own is too much", set, 2, 0, 0, fault(api.ErrNone, 2))
		}
		// Its own J doesn't count where it goes ahead of others.
		wantResponse(t, "J of a lower one", set, 0, 0, 1, api.Fault{})
		wantResponse(t, "J of a lower one", set, 1, 0, 3, api.Fault{})
	}
}

func TestResponseHeldUp(t *testing.T) {
	for block, want := range []int{1, 2, 3, 4} {
		wantResponse(t, "the first", three(), 0, block, want, api.Fault{})
	}
	wantResponse(t, "the first", three(), 0, 4, 0, fault(api.ErrNone, 0))
	wantResponse(t, "the second", three(), 1, 1, 4, api.Fault{})
	wantResponse(t, "the second", three(), 1, 2, 6, api.Fault{})
	wantResponse(t, "the second", three(), 1, 3, 0, fault(api.ErrNone, 1))
	// With one tick more nothing else comes; with two, the first one does at 12.
	wantResponse(t, "the third", three(), 2, 1, 11, api.Fault{})
	wantResponse(t, "the third", three(), 2, 2, 12, api.Fault{})
	wantResponse(t, "the third", three(), 2, 3, 0, fault(api.ErrNone, 2))
	// What holds one task up holds no other up.
	wantResponses(t, "each its own", three(), []int{3, 2, 1}, []int{4, 6, 11}, api.Fault{})
	wantResponses(t, "each its own", three(), []int{0, 2, 0}, []int{1, 6, 10}, api.Fault{})
}

func TestResponseJustAtAPeriod(t *testing.T) {
	// What comes just when w is over doesn't count any more.
	set := named(task(1, 4, 2), task(3, 100, 1))
	wantResponse(t, "done just as it comes anew", set, 1, 0, 4, api.Fault{})
	wantResponse(t, "not done as it comes anew", set, 1, 1, 6, api.Fault{})
	wantResponse(t, "twice", set, 1, 3, 8, api.Fault{})
	wantResponse(t, "twice and one more", set, 1, 4, 10, api.Fault{})
	for j, want := range []int{4, 5, 5, 5, 6, 6} {
		set[0].J = j
		wantResponse(t, "one that may be late", set, 1, 0, want, api.Fault{})
	}
	set[0].J = 0
	set[1].J = 1
	wantResponse(t, "its own J isn't asked there", set, 1, 0, 5, api.Fault{})
}

func TestResponseWithLateOthers(t *testing.T) {
	set := named(late(1, 4, 2, 3), task(2, 6, 2), task(3, 12, 1))
	wantResponse(t, "of the document's tests", set, 1, 0, 4, api.Fault{})
	// One that is late by more than its period comes more often at once.
	for j := range 41 {
		set := named(late(1, 10, j, 2), task(1, 100, 1))
		first := 1 + (j+1+9)/10
		want, f := otherResponse(set, 1, 0)
		if f != (api.Fault{}) || want < first {
			t.Fatalf("%d: %d %v", j, want, f)
		}
		wantResponse(t, "late by periods", set, 1, 0, want, api.Fault{})
	}
	much := named(late(1, 10000, 10000, 2), task(1, 10000, 1))
	wantResponse(t, "the greatest J", much, 1, 0, 3, api.Fault{})
	much[0].T, much[0].D = 1, 1
	wantResponse(t, "the greatest J, the least T", much, 1, 0, 0, fault(api.ErrNone, 1))
}

func TestResponseWithTheSameP(t *testing.T) {
	set := named(task(2, 10, 5), task(3, 10, 5), task(4, 10, 5))
	wantResponses(t, "all the same", set, none(3), []int{9, 9, 9}, api.Fault{})
	wantResponses(t, "the first one above", with(set, 6), none(3), []int{2, 9, 9}, api.Fault{})
	wantResponses(t, "the first one below", with(set, 4), none(3), []int{9, 7, 7}, api.Fault{})
	wantResponses(t, "all 0", with(set, 0, 0, 0), none(3), []int{9, 9, 9}, api.Fault{})
	wantResponses(t, "all 1000", with(set, 1000, 1000, 1000), none(3), []int{9, 9, 9}, api.Fault{})
	wantResponses(t, "far apart", with(set, 0, 1000, 999), none(3), []int{9, 3, 7}, api.Fault{})
	full := named(task(5, 10, 5), task(5, 10, 5))
	wantResponses(t, "all the time", full, none(2), []int{10, 10}, api.Fault{})
	full[1].D = 9
	wantResponses(t, "all the time, due sooner", full, none(2), nil, fault(api.ErrNone, 1))
}

func TestResponseWhereThereIsNone(t *testing.T) {
	for _, c := range []struct {
		what string
		set  []api.Task
		at   int
	}{
		{"others use all the time", named(task(1, 1, 2), task(1, 10000, 1)), 1},
		{"others use all the time together", named(task(1, 2, 3), task(1, 2, 2), task(1, 10000, 1)), 2},
		{"others use more than all the time", named(task(10000, 10000, 3), task(1, 1, 2), task(1, 10000, 1)), 1},
		{"others use all the time, slowly", named(task(10000, 10000, 2), task(1, 10000, 1)), 1},
		{"others use nearly all the time", named(task(9999, 10000, 2), task(2, 10000, 1)), 1},
		{"the same P, and all the time", named(task(1, 1, 2), task(1, 10000, 2)), 0},
		{"eight that use all the time", named(task(1, 1, 8), task(1, 1, 7), task(1, 1, 6), task(1, 1, 5), task(1, 1, 4), task(1, 1, 3), task(1, 1, 2), task(1, 1, 1)), 1},
	} {
		wantResponse(t, c.what, c.set, c.at, 0, 0, fault(api.ErrNone, c.at))
		wantResponse(t, c.what, c.set, c.at, api.MaxTime, 0, fault(api.ErrNone, c.at))
		wantResponses(t, c.what, c.set, none(len(c.set)), nil, fault(api.ErrNone, c.at))
	}
	// Just as much as there is.
	wantResponse(t, "all that is left", named(task(9999, 10000, 2), task(1, 10000, 1)), 1, 0, 10000, api.Fault{})
	wantResponse(t, "all that is left", named(task(1, 2, 2), task(5000, 10000, 1)), 1, 0, 10000, api.Fault{})
	wantResponse(t, "one too many", named(task(1, 2, 2), task(5001, 10000, 1)), 1, 0, 0, fault(api.ErrNone, 1))
}

func TestResponseRange(t *testing.T) {
	for n := 1; n <= api.MaxTasks; n++ {
		set := several(n)
		for i := range n {
			wantResponse(t, "each", set, i, 0, 1+i, api.Fault{})
		}
		for _, i := range []int{-1, n, n + 1, math.MinInt, math.MaxInt} {
			wantResponse(t, "no such task", set, i, 0, 0, fault(api.ErrRange, 0))
			wantResponse(t, "no such task", set, i, -1, 0, fault(api.ErrRange, 0))
		}
		for _, block := range []int{-1, api.MaxTime + 1, math.MinInt, math.MaxInt} {
			wantResponse(t, "no such block", set, n-1, block, 0, fault(api.ErrRange, 0))
		}
		wantResponse(t, "the greatest block", set, n-1, api.MaxTime, 0, fault(api.ErrNone, n-1))
	}
}

func TestResponsesHowMany(t *testing.T) {
	for n := 1; n <= api.MaxTasks; n++ {
		set := several(n)
		want := make([]int, n)
		for i := range want {
			want[i] = 1 + i
		}
		wantResponses(t, "as many", set, none(n), want, api.Fault{})
		wantResponses(t, "one fewer", set, none(n-1), nil, fault(api.ErrMany, 0))
		wantResponses(t, "one more", set, none(n+1), nil, fault(api.ErrMany, 0))
		wantResponses(t, "no blocks", set, nil, nil, fault(api.ErrMany, 0))
		wantResponses(t, "one more, and all wrong", set, slices.Repeat([]int{-1}, n+1), nil, fault(api.ErrMany, 0))
	}
}

func TestResponsesTellsTheFirst(t *testing.T) {
	const most = api.MaxTime
	for _, c := range []struct {
		blocks []int
		want   api.Fault
	}{
		{[]int{-1, 0, 0}, fault(api.ErrRange, 0)},
		{[]int{0, -1, 0}, fault(api.ErrRange, 0)},
		{[]int{0, 0, -1}, fault(api.ErrRange, 0)},
		{[]int{0, 0, most + 1}, fault(api.ErrRange, 0)},
		{[]int{0, 0, most}, fault(api.ErrNone, 2)},
		{[]int{0, most, most}, fault(api.ErrNone, 1)},
		{[]int{most, most, most}, fault(api.ErrNone, 0)},
		{[]int{most, most, -1}, fault(api.ErrNone, 0)},
		{[]int{0, most, -1}, fault(api.ErrNone, 1)},
		{[]int{0, -1, most}, fault(api.ErrRange, 0)},
		{[]int{0, most + 1, most}, fault(api.ErrRange, 0)},
		{[]int{-1, most, most}, fault(api.ErrRange, 0)},
		{[]int{0, 3, 0}, fault(api.ErrNone, 1)},
		{[]int{0, 0, 3}, fault(api.ErrNone, 2)},
		{[]int{math.MaxInt, 0, 0}, fault(api.ErrRange, 0)},
		{[]int{0, math.MinInt, 0}, fault(api.ErrRange, 0)},
	} {
		wantResponses(t, "the first", three(), c.blocks, nil, c.want)
	}
}

// TestFaultsOfSets: what chapter 7's Check says goes ahead of all else; then, where it is asked, a D above its T.
func TestFaultsOfSets(t *testing.T) {
	tooLong := func(t *api.Task) { t.D = t.T + 1 }
	wantBad(t, "no tasks", nil, fault(api.ErrMany, 0))
	wantBad(t, "no tasks", []api.Task{}, fault(api.ErrMany, 0))
	wantBad(t, "too many tasks", make([]api.Task, api.MaxTasks+1), fault(api.ErrMany, 0))
	wantBad(t, "far too many tasks", make([]api.Task, 5000), fault(api.ErrMany, 0))
	for i := range 3 {
		for what, c := range map[string]struct {
			code   api.Errno
			change func(t *api.Task)
		}{
			"no name":     {api.ErrName, func(t *api.Task) { t.Name = "" }},
			"no letter":   {api.ErrName, func(t *api.Task) { t.Name = "A" }},
			"C too small": {api.ErrRange, func(t *api.Task) { t.C = 0 }},
			"T too small": {api.ErrRange, func(t *api.Task) { t.T = 0 }},
			"T too great": {api.ErrRange, func(t *api.Task) { t.T = api.MaxTime + 1 }},
			"T at an end": {api.ErrRange, func(t *api.Task) { t.T = math.MinInt }},
			"D too small": {api.ErrRange, func(t *api.Task) { t.D = 0 }},
			"J too small": {api.ErrRange, func(t *api.Task) { t.J = -1 }},
			"J too great": {api.ErrRange, func(t *api.Task) { t.J = math.MaxInt }},
			"O too small": {api.ErrRange, func(t *api.Task) { t.O = -1 }},
			"P too great": {api.ErrRange, func(t *api.Task) { t.P = 1001 }},
			"P too small": {api.ErrRange, func(t *api.Task) { t.P = -1 }},
			"C above D":   {api.ErrOrder, func(t *api.Task) { t.C = t.D + 1 }},
		} {
			bad := changed(three(), i, c.change)
			wantBad(t, what, bad, fault(c.code, i))
			for k := range 3 {
				if k != i {
					wantBad(t, what+", and D above T elsewhere", changed(bad, k, tooLong), fault(c.code, i))
				}
			}
		}
	}
	wantBad(t, "a name twice", changed(three(), 2, func(t *api.Task) { t.Name = "b" }), fault(api.ErrTwice, 2))
}

func TestDAboveT(t *testing.T) {
	tooLong := func(t *api.Task) { t.D = t.T + 1 }
	for i := range 3 {
		bad := changed(three(), i, tooLong)
		wantRefused(t, "one above T", bad, fault(api.ErrOrder, i))
		wantRefused(t, "far above T", changed(three(), i, func(t *api.Task) { t.D = api.MaxTime }), fault(api.ErrOrder, i))
		wantRefused(t, "C above T, too", changed(three(), i, func(t *api.Task) { t.C, t.D = t.T+1, t.T+1 }), fault(api.ErrOrder, i))
		for k := i; k < 3; k++ {
			wantRefused(t, "the first of two", changed(bad, k, tooLong), fault(api.ErrOrder, i))
		}
		if _, f := fixed.Rates(bad); f != (api.Fault{}) {
			t.Errorf("Rates with a D above its T: %v", f)
		}
		if _, f := fixed.Deadlines(bad); f != (api.Fault{}) {
			t.Errorf("Deadlines with a D above its T: %v", f)
		}
	}
	for _, n := range []int{1, 2, api.MaxTasks} {
		last := changed(several(n), n-1, tooLong)
		wantRefused(t, "the last one", last, fault(api.ErrOrder, n-1))
	}
	great := named(due(1, 9999, 10000, 0))
	wantRefused(t, "the greatest D", great, fault(api.ErrOrder, 0))
}

func TestResponseAnotherWay(t *testing.T) {
	m := newMaker(91)
	some, no, all, notAll := 0, 0, 0, 0
	for range 6000 {
		n := m.within(1, api.MaxTasks)
		set := m.jitter(m.set(n, m.one(5, 20, 60), m.one(30, 60, 90, 120)))
		if m.Intn(2) == 0 {
			set = m.order(set)
		}
		blocks := m.blocks(n, m.one(0, 2, 20))
		for i, block := range blocks {
			want, f := otherResponse(set, i, block)
			wantResponse(t, "made", set, i, block, want, f)
			if f.Code == api.OK {
				some++
			} else {
				no++
			}
		}
		want, f := otherResponses(set, blocks)
		wantResponses(t, "made", set, blocks, want, f)
		if f.Code == api.OK {
			all++
		} else {
			notAll++
		}
	}
	if min(some, no, all, notAll) < 500 {
		t.Errorf("%d have a response, %d none; %d sets have all, %d haven't", some, no, all, notAll)
	}
}

// TestResponseShort: all pairs of tasks with small numbers, with all small blocks.
func TestResponseShort(t *testing.T) {
	const most = 4
	var all []api.Task
	for period := 1; period <= most; period++ {
		for d := 1; d <= period; d++ {
			for c := 1; c <= d; c++ {
				for j := range 4 {
					all = append(all, api.Task{C: c, T: period, D: d, J: j, P: 1})
				}
			}
		}
	}
	for _, a := range all {
		for _, b := range all {
			for p := range 3 {
				set := named(a, b)
				set[1].P = p
				for block := range 3 {
					for i := range set {
						want, f := otherResponse(set, i, block)
						wantResponse(t, "short", set, i, block, want, f)
					}
				}
			}
		}
	}
}

// TestResponseGreat: sets with great numbers, of which w grows slowly.
func TestResponseGreat(t *testing.T) {
	m := newMaker(92)
	some, no := 0, 0
	for range 150 {
		n := m.within(2, api.MaxTasks)
		set := m.order(m.jitter(m.set(n, 10000, m.one(40, 70))))
		set[0].T = m.one(2, 3, 10, 100)
		set[0].C, set[0].D, set[0].J = 1, set[0].T, 0
		i := m.Intn(n)
		want, f := otherResponse(set, i, 0)
		wantResponse(t, "great", set, i, 0, want, f)
		if f.Code == api.OK {
			some++
		} else {
			no++
		}
	}
	if min(some, no) < 15 {
		t.Errorf("%d have a response, %d none", some, no)
	}
	slow := named(task(9998, 9999, 2), due(1, 10000, 10000, 1))
	wantResponse(t, "in one tick of very many", slow, 1, 0, 9999, api.Fault{})
	crawl := named(task(1, 2, 3), task(4999, 10000, 2), task(1, 10000, 1))
	wantResponse(t, "tick by tick", crawl, 2, 0, 10000, api.Fault{})
}

func TestResponsesOnlyRead(t *testing.T) {
	room := append(three(), named(task(7, 7, 7))...)
	blocks := []int{3, 2, 1, 77}
	keptRoom, keptBlocks := slices.Clone(room), slices.Clone(blocks)
	first, _ := fixed.Responses(room[:3], blocks[:3])
	fixed.Response(room[:3], 2, 1)
	if !slices.Equal(room, keptRoom) || !slices.Equal(blocks, keptBlocks) {
		t.Errorf("changed: %v %v", room, blocks)
	}
	second, _ := fixed.Responses(room[:3], blocks[:3])
	first[0] = 99
	if second[0] != 4 || !slices.Equal(blocks, keptBlocks) {
		t.Errorf("shared: %v %v", second, blocks)
	}
}
