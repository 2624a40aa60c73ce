package mach_test

import (
	"fmt"
	"math"
	"slices"
	"testing"
	"time"

	"punctual/api"
	"punctual/mach"
)

func begin() (vars, in []int) {
	return []int{10, 11, 12, 13, 14, 15, 16, -17}, []int{20, 21, -22, 23}
}

// TestInstructions: what each of them does, and in how many ticks.
func TestInstructions(t *testing.T) {
	for _, c := range []struct {
		image []api.Ins
		vars  map[int]int // those that become others
		puts  []api.Put
		ticks int
	}{
		{nil, nil, nil, 0},
		{[]api.Ins{push(999999999), store(0)}, map[int]int{0: 999999999}, nil, 2},
		{[]api.Ins{push(0), store(7)}, map[int]int{7: 0}, nil, 2},
		{[]api.Ins{load(7), store(1), load(0), store(2)}, map[int]int{1: -17, 2: 10}, nil, 4},
		{[]api.Ins{input(0), store(0)}, map[int]int{0: 20}, nil, 3},
		{[]api.Ins{input(2), input(3), store(0), store(1)}, map[int]int{0: 23, 1: -22}, nil, 6},
		{[]api.Ins{push(5), out(0)}, nil, []api.Put{{Port: 0, Value: 5}}, 3},
		{[]api.Ins{load(7), out(3), load(1), out(0)}, nil, []api.Put{{Port: 3, Value: -17}, {Port: 0, Value: 11}}, 6},
		{[]api.Ins{load(1), load(0), plain(api.IAdd), store(0)}, map[int]int{0: 21}, nil, 4},
		{[]api.Ins{load(1), load(7), plain(api.ISub), store(0)}, map[int]int{0: 28}, nil, 4},
		{[]api.Ins{load(1), load(7), plain(api.IMul), store(0)}, map[int]int{0: -187}, nil, 6},
		{[]api.Ins{load(0), load(1), plain(api.ILess), store(0)}, map[int]int{0: 1}, nil, 4},
		{[]api.Ins{load(1), load(0), plain(api.ILess), store(0)}, map[int]int{0: 0}, nil, 4},
		{[]api.Ins{load(1), load(1), plain(api.ILess), store(0)}, map[int]int{0: 0}, nil, 4},
		{[]api.Ins{load(7), load(1), plain(api.ILess), store(0)}, map[int]int{0: 1}, nil, 4},
		{[]api.Ins{load(0), load(1), plain(api.ISame), store(0)}, map[int]int{0: 0}, nil, 4},
		{[]api.Ins{load(1), load(0), plain(api.ISame), store(0)}, map[int]int{0: 0}, nil, 4},
		{[]api.Ins{load(1), push(11), plain(api.ISame), store(0)}, map[int]int{0: 1}, nil, 4},
		{[]api.Ins{push(1), push(2), push(3), plain(api.ISub), plain(api.ISub), store(0)}, map[int]int{0: 2}, nil, 6},
		{[]api.Ins{push(1), push(2), plain(api.ISub), push(3), plain(api.ISub), store(0)}, map[int]int{0: -4}, nil, 6},
		{[]api.Ins{jump(1)}, nil, nil, 2},
		{[]api.Ins{push(1), skip(4), push(2), jump(5), push(3), store(0)}, map[int]int{0: 2}, nil, 6},
		{[]api.Ins{push(0), skip(4), push(2), jump(5), push(3), store(0)}, map[int]int{0: 3}, nil, 5},
		{[]api.Ins{load(7), skip(4), push(2), store(0)}, map[int]int{0: 2}, nil, 4},
		{[]api.Ins{push(0), skip(4), push(2), store(0)}, nil, nil, 3},
		{[]api.Ins{push(0), skip(2)}, nil, nil, 3},
		{[]api.Ins{push(1), skip(2)}, nil, nil, 2},
		{[]api.Ins{count(0, 0), again(0, 1)}, nil, nil, 2},
		{[]api.Ins{count(0, 1), again(0, 1)}, nil, nil, 4},
		{[]api.Ins{count(0, 2), again(0, 1)}, nil, nil, 6},
		{[]api.Ins{count(7, 1000), again(7, 1)}, nil, nil, 2002},
		{[]api.Ins{count(0, 2), load(0), push(1), plain(api.IAdd), store(0), again(0, 1)}, map[int]int{0: 13}, nil, 1 + 3*4 + 2*2 + 1},
		{[]api.Ins{count(0, 1), count(5, 2), work(7), again(5, 2), again(0, 1)}, nil, nil, 1 + 2*(1+3*7+5) + 3},
		{[]api.Ins{count(0, 1), work(1), again(0, 1), count(0, 2), work(1), again(0, 4)}, nil, nil, 1 + 2 + 3 + 1 + 3 + 5},
		{[]api.Ins{count(0, 900), work(2), stop(0), again(0, 1)}, nil, nil, 5},
		{[]api.Ins{count(0, 900), count(1, 2), work(1), stop(0), again(1, 2), again(0, 1)}, nil, nil, 2 + 3*2 + 5 + 1},
		{[]api.Ins{count(0, 900), count(1, 2), work(1), stop(1), again(1, 2), stop(0), again(0, 1)}, nil, nil, 7},
		{[]api.Ins{lock(0), unlock(0)}, nil, nil, 2},
		{[]api.Ins{lock(3), lock(0), work(3), unlock(0), unlock(3)}, nil, nil, 7},
		{[]api.Ins{work(1)}, nil, nil, 1},
		{[]api.Ins{work(1000)}, nil, nil, 1000},
		{[]api.Ins{push(9), count(0, 2), push(2), plain(api.ISub), again(0, 2), out(1)}, nil, []api.Put{{Port: 1, Value: 3}}, 1 + 1 + 6 + 5 + 2},
	} {
		vars, in := begin()
		want := api.Ended{Vars: slices.Clone(vars), Puts: c.puts, Steps: c.ticks}
		for at, v := range c.vars {
			want.Vars[at] = v
		}
		if got, f := mach.Run(c.image, vars, in); f != (api.Fault{}) || !alike(got, want) {
			t.Errorf("Run(%v): %v %v, want %v", c.image, got, f, want)
		}
		m := start(t, c.image, vars, in)
		ticks := 0
		for ; !m.Done() && ticks < 5000; ticks++ {
			m.Tick()
		}
		if got := (api.Ended{Vars: m.Vars(), Puts: m.Puts(), Steps: ticks}); !alike(got, want) || m.At() != len(c.image) {
			t.Errorf("%v, ticked: %v, want %v", c.image, got, want)
		}
	}
}

// TestExample: the document's example, tick by tick.
func TestExample(t *testing.T) {
	image := []api.Ins{count(0, 2), load(0), input(0), plain(api.IAdd), store(0), again(0, 1), load(0), push(2), plain(api.IMul), out(1)}
	got, f := mach.Run(image, make([]int, 8), []int{5, 0, 0, 0})
	if want := (api.Ended{Vars: []int{15, 0, 0, 0, 0, 0, 0, 0}, Puts: []api.Put{{Port: 1, Value: 30}}, Steps: 28}); f != (api.Fault{}) || !alike(got, want) {
		t.Errorf("%v %v, want %v", got, f, want)
	}
	ticks := []int{0, 1, 2, 2, 3, 4, 5, 5, 1, 2, 2, 3, 4, 5, 5, 1, 2, 2, 3, 4, 5, 6, 7, 8, 8, 8, 9, 9, 10}
	m := start(t, image, make([]int, 8), []int{5, 0, 0, 0})
	for i, at := range ticks[:28] {
		if m.At() != at || m.Done() {
			t.Errorf("tick %d: at %d, done %v, want %d", i, m.At(), m.Done(), at)
		}
		x, last := m.Tick()
		if x != image[at] || last != (ticks[i+1] != at) {
			t.Errorf("tick %d: %v %v", i, x, last)
		}
		if out := len(m.Puts()); (out == 1) != (i == 27) {
			t.Errorf("tick %d: %d went out", i, out)
		}
	}
	if !m.Done() {
		t.Error("it isn't over")
	}
}

// TestRound: numbers have 64 bits, and go round.
func TestRound(t *testing.T) {
	vars := []int{math.MaxInt, math.MinInt, 1, 2, -1, 0, 999999999, 1 << 32}
	for _, c := range []struct{ a, b, sum, less, times int }{
		{0, 2, math.MinInt, math.MaxInt - 1, math.MaxInt},
		{1, 2, math.MinInt + 1, math.MaxInt, math.MinInt},
		{0, 0, -2, 0, 1},
		{1, 1, 0, 0, 0},
		{0, 1, -1, -1, math.MinInt},
		{5, 1, math.MinInt, math.MinInt, 0},
		{1, 4, math.MaxInt, math.MinInt + 1, math.MinInt},
		{0, 3, math.MinInt + 1, math.MaxInt - 2, -2},
		{7, 7, 1 << 33, 0, 0},
		{6, 6, 1999999998, 0, 999999998000000001},
	} {
		image := []api.Ins{
			load(c.a), load(c.b), plain(api.IAdd), out(0),
			load(c.a), load(c.b), plain(api.ISub), out(1),
			load(c.a), load(c.b), plain(api.IMul), out(2),
		}
		got, f := mach.Run(image, vars, make([]int, 4))
		if want := []api.Put{{Port: 0, Value: c.sum}, {Port: 1, Value: c.less}, {Port: 2, Value: c.times}}; f != (api.Fault{}) || !slices.Equal(got.Puts, want) {
			t.Errorf("%d, %d: %v %v, want %v", vars[c.a], vars[c.b], got.Puts, f, want)
		}
	}
	got, _ := mach.Run([]api.Ins{load(1), load(0), plain(api.ILess), out(0), load(0), load(1), plain(api.ILess), out(0)}, vars, make([]int, 4))
	if !slices.Equal(got.Puts, []api.Put{{Value: 1}, {Value: 0}}) {
		t.Errorf("less: %v", got.Puts)
	}
}

// TestOther: images of all kinds do, tick by tick, what another way to do them does.
func TestOther(t *testing.T) {
	ended, stopped := 0, 0
	for seed := range int64(1800) {
		image, vars, in := made(seed)
		o := other{vars: slices.Clone(vars), in: in, counts: map[int]int{}}
		ticks, at := o.ticks(image)
		got, f := mach.Run(image, vars, in)
		if at < len(image) {
			stopped++
			if want := fault(api.ErrSteps, at); f != want || got.Vars != nil || got.Puts != nil || got.Steps != 0 {
				t.Fatalf("seed %d: %v %v, want %v", seed, got, f, want)
			}
		} else {
			ended++
			if want := (api.Ended{Vars: o.vars, Puts: o.puts, Steps: len(ticks)}); f != (api.Fault{}) || !alike(got, want) {
				t.Fatalf("seed %d: %v %v, want %v", seed, got, f, want)
			}
		}
		m := start(t, image, vars, in)
		for i, want := range ticks[:min(2000, len(ticks))] {
			x, last := m.Tick()
			if x != want.x || last != want.last || m.At() != want.at || m.Done() != (want.at == len(image)) || !slices.Equal(m.Vars(), want.vars) || !slices.Equal(m.Puts(), want.puts) {
				t.Fatalf("seed %d, tick %d: %v %v %d %v %v, want %v", seed, i, x, last, m.At(), m.Vars(), m.Puts(), want)
			}
		}
	}
	if ended < 1000 || stopped < 20 {
		t.Errorf("%d ended, %d stopped: too few", ended, stopped)
	}
}

// TestSteps: the last instruction that may be done is done, the next one is told.
func TestSteps(t *testing.T) {
	// 1 + 1000 * (n + 1) instructions, and some more: 20000 with 18 and 999.
	loop := func(more int) []api.Ins {
		image := append([]api.Ins{count(0, 999)}, slices.Repeat([]api.Ins{work(1)}, 18)...)
		image = append(image, again(0, 1))
		return append(image, slices.Repeat([]api.Ins{work(1000)}, more)...)
	}
	vars, in := begin()
	got, f := mach.Run(loop(999), vars, in)
	if want := 1 + 18000 + 1999 + 999*1000; f != (api.Fault{}) || got.Steps != want {
		t.Errorf("20000 instructions: %d ticks, %v, want %d", got.Steps, f, want)
	}
	wantSteps := func(what string, image []api.Ins, at int) {
		t.Helper()
		out, f := mach.Run(image, vars, in)
		if f != fault(api.ErrSteps, at) || out.Vars != nil || out.Puts != nil || out.Steps != 0 {
			t.Errorf("%s: %v %v, want At %d", what, out, f, at)
		}
	}
	wantSteps("one beyond", loop(1000), 1019)
	wantSteps("two beyond", loop(1001), 1019)
	wantSteps("a jump beyond", append(loop(999), jump(1020)), 1019)
	wantSteps("for a long time", []api.Ins{count(0, 1000), count(1, 1000), push(7), out(0), again(1, 2), again(0, 1)}, 2)
	wantSteps("for a long time", []api.Ins{count(0, 1000), count(1, 1000), again(1, 2), again(0, 1)}, 2)
	m, ticks := start(t, loop(1000), vars, in), 0
	for ; !m.Done() && ticks < 2000000; ticks++ {
		m.Tick()
	}
	if want := 1 + 18000 + 1999 + 1000*1000; ticks != want {
		t.Errorf("a machine has %d ticks, want %d", ticks, want)
	}
}

// TestLongWork: a run goes by instructions: as much work as there may be must not take long.
func TestLongWork(t *testing.T) {
	image := append([]api.Ins{count(0, 9)}, slices.Repeat([]api.Ins{work(1000)}, 1998)...)
	image = append(image, again(0, 1))
	began := time.Now()
	for range 20 {
		got, f := mach.Run(image, make([]int, 8), make([]int, 4))
		if f != (api.Fault{}) || got.Steps != 1+10*1998000+19 {
			t.Fatalf("%v %v", got, f)
		}
	}
	if took := time.Since(began); took > 2*time.Second {
		t.Errorf("it took %v", took)
	}
}

// TestOver: when all is over nothing more happens.
func TestOver(t *testing.T) {
	vars, in := begin()
	for _, image := range [][]api.Ins{nil, {}, {load(3), store(0), push(4), out(2)}} {
		m := start(t, image, vars, in)
		for range 5 {
			m.Tick()
		}
		left, puts := m.Vars(), m.Puts()
		for range 3 {
			x, last := m.Tick()
			if x != (api.Ins{}) || last || !m.Done() || m.At() != len(image) || !slices.Equal(m.Vars(), left) || !slices.Equal(m.Puts(), puts) {
				t.Errorf("%v: %v %v %v %d %v %v", image, x, last, m.Done(), m.At(), m.Vars(), m.Puts())
			}
		}
	}
	m := start(t, nil, vars, in)
	if !m.Done() || m.At() != 0 || !slices.Equal(m.Vars(), vars) || len(m.Puts()) != 0 {
		t.Errorf("an image with nothing in it: %v %d %v %v", m.Done(), m.At(), m.Vars(), m.Puts())
	}
	got, f := mach.Run(nil, vars, in)
	if f != (api.Fault{}) || !alike(got, api.Ended{Vars: vars}) {
		t.Errorf("an image with nothing in it: %v %v", got, f)
	}
}

// TestMachines: two machines of one image don't know of one another, however their ticks come.
func TestMachines(t *testing.T) {
	image := []api.Ins{count(0, 3), load(0), input(0), plain(api.IAdd), store(0), load(0), out(1), again(0, 1)}
	vars := make([]int, 8)
	a, b := start(t, image, vars, []int{1, 0, 0, 0}), start(t, image, vars, []int{100, 0, 0, 0})
	for i := 0; !a.Done() || !b.Done(); i++ {
		a.Tick()
		if i%3 != 0 {
			b.Tick()
		}
		if i > 1000 {
			t.Fatal("it doesn't end")
		}
	}
	c := start(t, image, vars, []int{5, 0, 0, 0})
	c.Tick()
	if a.Vars()[0] != 4 || b.Vars()[0] != 400 || c.At() != 1 || c.Done() || len(c.Puts()) != 0 {
		t.Errorf("%v %v %d", a.Vars(), b.Vars(), c.At())
	}
	if !slices.Equal(a.Puts(), []api.Put{{Port: 1, Value: 1}, {Port: 1, Value: 2}, {Port: 1, Value: 3}, {Port: 1, Value: 4}}) || b.Puts()[3].Value != 400 {
		t.Errorf("%v %v", a.Puts(), b.Puts())
	}
}

// TestCopies: copies of a machine that has had no tick yet go each their own way, and it stays at the beginning.
func TestCopies(t *testing.T) {
	image := []api.Ins{count(0, 3), push(1), load(0), plain(api.IAdd), store(0), load(0), out(1), again(0, 1)}
	first := start(t, image, make([]int, 8), make([]int, 4))
	a, b := *first, *first
	for !a.Done() {
		a.Tick()
		a.Tick()
		b.Tick()
	}
	if b.Done() || len(b.Puts()) != 2 || first.At() != 0 || len(first.Puts()) != 0 {
		t.Errorf("in the midst: %v, %d %v", b.Puts(), first.At(), first.Puts())
	}
	for !b.Done() {
		b.Tick()
	}
	want, _ := mach.Run(image, make([]int, 8), make([]int, 4))
	for _, m := range []*mach.Machine{&a, &b} {
		if !slices.Equal(m.Vars(), want.Vars) || !slices.Equal(m.Puts(), want.Puts) {
			t.Errorf("%v %v, want %v", m.Vars(), m.Puts(), want)
		}
	}
}

// TestMemory: what is handed in isn't changed and isn't kept, and what is handed out is new.
func TestMemory(t *testing.T) {
	room := []api.Ins{push(3), out(2), load(0), input(1), plain(api.IAdd), store(0), load(0), out(0), work(9), work(9)}
	image := room[:8]
	vars := []int{1, 2, 3, 4, 5, 6, 7, 8, 9, 10}
	in := []int{1, 2, 3, 4, 5, 6}
	before := fmt.Sprint(room, vars, in)
	for range 2 {
		out, f := mach.Run(image, vars[:8], in[:4])
		if f != (api.Fault{}) || out.Vars[0] != 3 {
			t.Fatalf("%v %v", out, f)
		}
		out.Vars[1] = -1
		_ = append(out.Vars, -1, -1)
		out.Puts[0] = api.Put{}
		if mach.Check(image) != (api.Fault{}) || fmt.Sprint(room, vars, in) != before {
			t.Fatalf("changed: %v %v %v", room, vars, in)
		}
	}
	m := start(t, image, vars[:8], in[:4])
	if fmt.Sprint(room, vars, in) != before {
		t.Fatalf("changed: %v %v %v", room, vars, in)
	}
	clear(room)
	clear(vars)
	clear(in)
	for !m.Done() {
		clear(m.Vars())
		clear(m.Puts())
		_ = append(m.Vars(), 7)
		_ = append(m.Puts(), api.Put{Port: 3, Value: 3})
		m.Tick()
	}
	if !slices.Equal(m.Vars(), []int{3, 2, 3, 4, 5, 6, 7, 8}) || !slices.Equal(m.Puts(), []api.Put{{Port: 2, Value: 3}, {Port: 0, Value: 3}}) {
		t.Errorf("%v %v", m.Vars(), m.Puts())
	}
	if fmt.Sprint(room, vars, in) != fmt.Sprint(make([]api.Ins, 10), make([]int, 10), make([]int, 6)) {
		t.Errorf("changed: %v %v %v", room, vars, in)
	}
	kept, puts := m.Vars(), m.Puts()
	kept[0], puts[0] = 99, api.Put{}
	if m.Vars()[0] != 3 || m.Puts()[0] != (api.Put{Port: 2, Value: 3}) {
		t.Errorf("%v %v", m.Vars(), m.Puts())
	}
	numbers := []int{9, 8, 7, 6, 5, 4, 3, 2}
	out, _ := mach.Run([]api.Ins{input(3), store(0), input(0), store(1)}, numbers, numbers[:4])
	if !slices.Equal(out.Vars, []int{6, 9, 7, 6, 5, 4, 3, 2}) {
		t.Errorf("inputs that are variables, too: %v", out.Vars)
	}
}

// TestEarlierAnswers: what a machine has told stays as it was told, whatever it does then.
func TestEarlierAnswers(t *testing.T) {
	m := start(t, []api.Ins{count(0, 9), load(0), push(1), plain(api.IAdd), store(0), load(0), out(0), again(0, 1)}, make([]int, 8), make([]int, 4))
	var vars [][]int
	var puts [][]api.Put
	for !m.Done() {
		vars, puts = append(vars, m.Vars()), append(puts, m.Puts())
		m.Tick()
	}
	for i := range vars {
		n := len(puts[i])
		if vars[i][0] != n && vars[i][0] != n+1 || n > 0 && puts[i][n-1].Value != n {
			t.Errorf("%d: %v %v", i, vars[i], puts[i])
		}
	}
}

// TestWrong: what Check says comes first, then how many variables and inputs there are.
func TestWrong(t *testing.T) {
	vars, in := begin()
	for _, c := range []struct {
		image []api.Ins
		want  api.Fault
	}{
		{[]api.Ins{work(1), {}}, fault(api.ErrOp, 1)},
		{[]api.Ins{work(1), load(8)}, fault(api.ErrRange, 1)},
		{[]api.Ins{work(1), load(-1)}, fault(api.ErrRange, 1)},
		{[]api.Ins{work(1), stop(0)}, fault(api.ErrLoop, 1)},
		{[]api.Ins{work(1), lock(0)}, fault(api.ErrLock, 1)},
		{[]api.Ins{work(1), jump(0)}, fault(api.ErrJump, 1)},
		{[]api.Ins{work(1), store(0)}, fault(api.ErrStack, 1)},
		{[]api.Ins{work(1), push(0)}, fault(api.ErrStack, 2)},
	} {
		wantCheck(t, c.image, c.want)
		wantNothing(t, fmt.Sprint(c.image), c.image, vars, in, c.want)
		wantNothing(t, fmt.Sprint(c.image), c.image, nil, in[:3], c.want)
	}
	endless := []api.Ins{count(0, 1000), count(1, 1000), again(1, 2), again(0, 1)}
	for v := range 18 {
		for i := range 10 {
			for _, image := range [][]api.Ins{nil, {work(1)}, endless} {
				if v != 8 || i != 4 {
					wantNothing(t, fmt.Sprint(v, " variables and ", i, " inputs"), image, make([]int, v), make([]int, i), fault(api.ErrRange, 0))
				}
			}
		}
	}
	wantNothing(t, "room for variables", nil, make([]int, 0, 8), in, fault(api.ErrRange, 0))
	wantNothing(t, "room for inputs", nil, vars, make([]int, 0, 4), fault(api.ErrRange, 0))
}

// TestNone: of no machine, which New answers with a fault, all is over.
func TestNone(t *testing.T) {
	m, _ := mach.New(nil, nil, nil)
	x, last := m.Tick()
	if x != (api.Ins{}) || last || !m.Done() || m.At() != 0 || len(m.Vars()) != 0 || len(m.Puts()) != 0 {
		t.Errorf("%v %v %v %d %v %v", x, last, m.Done(), m.At(), m.Vars(), m.Puts())
	}
}

func TestCost(t *testing.T) {
	costs := map[int][2]int{
		api.IPush: {1, 1}, api.ILoad: {1, 1}, api.IStore: {1, 1}, api.IAdd: {1, 1}, api.ISub: {1, 1}, api.IMul: {3, 3},
		api.ILess: {1, 1}, api.ISame: {1, 1}, api.IIn: {2, 2}, api.IOut: {2, 2}, api.IJump: {2, 2}, api.ISkip: {1, 2},
		api.ICount: {1, 1}, api.IAgain: {1, 2}, api.IStop: {1, 1}, api.ILock: {1, 1}, api.IUnlock: {1, 1},
	}
	for _, op := range []int{math.MinInt, -18, -1, 0, 19, 20, 1000, math.MaxInt} {
		costs[op] = [2]int{1, 1}
	}
	for op, want := range costs {
		for _, a := range []int{-7, 0, 3, 500} {
			x := api.Ins{Op: op, A: a, B: 9}
			if got := [2]int{mach.Cost(x, false), mach.Cost(x, true)}; got != want {
				t.Errorf("%v: %v, want %v", x, got, want)
			}
		}
	}
	for _, a := range []int{1, 2, 7, 999, 1000} {
		if got := [2]int{mach.Cost(work(a), false), mach.Cost(work(a), true)}; got != [2]int{a, a} {
			t.Errorf("work %d: %v", a, got)
		}
	}
}
