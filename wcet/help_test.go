package wcet_test

import (
	"fmt"
	"math/big"
	"math/rand"
	"slices"
	"strconv"
	"strings"
	"testing"

	"punctual/api"
	"punctual/mach"
	"punctual/wcet"
)

// most is the greatest number that Rest may have.
const most = 1 << 40

// Instructions in a short form.
func load(a int) api.Ins     { return api.Ins{Op: api.ILoad, A: a} }
func store(a int) api.Ins    { return api.Ins{Op: api.IStore, A: a} }
func input(a int) api.Ins    { return api.Ins{Op: api.IIn, A: a} }
func jump(a int) api.Ins     { return api.Ins{Op: api.IJump, A: a} }
func skip(a int) api.Ins     { return api.Ins{Op: api.ISkip, A: a} }
func count(a, b int) api.Ins { return api.Ins{Op: api.ICount, A: a, B: b} }
func again(a, b int) api.Ins { return api.Ins{Op: api.IAgain, A: a, B: b} }
func stop(a int) api.Ins     { return api.Ins{Op: api.IStop, A: a} }
func lock(a int) api.Ins     { return api.Ins{Op: api.ILock, A: a} }
func unlock(a int) api.Ins   { return api.Ins{Op: api.IUnlock, A: a} }
func work(a int) api.Ins     { return api.Ins{Op: api.IWork, A: a} }

func fault(code api.Errno, at int) api.Fault { return api.Fault{Code: code, At: at} }

// instructions reads instructions: a word each, and its numbers; a stroke between two of them is for the eye alone.
func instructions(t *testing.T, text string) []api.Ins {
	t.Helper()
	words := strings.Fields("- push load store add sub mul less same in out jump skip count again stop lock unlock work")
	var l []api.Ins
	for _, part := range strings.FieldsFunc(text, func(r rune) bool { return r == ',' || r == '|' }) {
		fields := append(strings.Fields(part), "0", "0")
		op := slices.Index(words, fields[0])
		a, wrongA := strconv.Atoi(fields[1])
		b, wrongB := strconv.Atoi(fields[2])
		if op < 1 || wrongA != nil || wrongB != nil || len(fields) > 5 {
			t.Fatalf("%q is no instruction", part)
		}
		l = append(l, api.Ins{Op: op, A: a, B: b})
	}
	return l
}

// analysed is what is known of an image that must have a worst time.
func analysed(t *testing.T, image []api.Ins) api.Bound {
	t.Helper()
	b, f := wcet.Analyse(image)
	if f != (api.Fault{}) || len(b.Rest) != len(image) {
		t.Fatalf("%.300s: %.300s %v", fmt.Sprint(image), fmt.Sprint(b), f)
	}
	return b
}

// wantNothing: is that the fault, of Analyse and of Held, is there nothing beside it, and is nothing proved?
func wantNothing(t *testing.T, what string, image []api.Ins, want api.Fault) {
	t.Helper()
	b, f := wcet.Analyse(image)
	if f != want || b.Worst != 0 || b.Rest != nil {
		t.Errorf("Analyse, %s: %.300s %v, want %v", what, fmt.Sprint(b), f, want)
	}
	held, f := wcet.Held(image)
	if f != want || held != nil {
		t.Errorf("Held, %s: %v %v, want %v", what, held, f, want)
	}
	for _, n := range []int{0, 1, 1000, most} {
		if wcet.Proves(image, api.Bound{Worst: most, Rest: slices.Repeat([]int{n}, len(image))}) {
			t.Errorf("Proves, %s: true, by %d everywhere", what, n)
		}
	}
}

// wantProves: does Proves say so? What it was given must be as it was.
func wantProves(t *testing.T, what string, image []api.Ins, worst int, rest []int, want bool) {
	t.Helper()
	was := slices.Clone(rest)
	if got := wcet.Proves(image, api.Bound{Worst: worst, Rest: rest}); got != want {
		t.Errorf("Proves, %s: %.300s %d %.300s: %v", what, fmt.Sprint(image), worst, fmt.Sprint(rest), got)
	}
	if !slices.Equal(rest, was) {
		t.Errorf("Proves, %s: changed what it was given", what)
	}
}

// with is a copy of a list with another number at a place.
func with(l []int, at, n int) []int {
	l = slices.Clone(l)
	l[at] = n
	return l
}

// closing is the number of what closes the region that at opens.
func closing(image []api.Ins, at int) int {
	for i := at + 1; ; i++ {
		if image[i].Op == image[at].Op+1 && image[i].A == image[at].A {
			return i
		}
	}
}

// end is where what is left from at on ends: at what closes its innermost region, or behind the last one.
func end(image []api.Ins, at int) int {
	for i := at - 1; i >= 0; i-- {
		if op := image[i].Op; (op == api.ICount || op == api.ILock) && closing(image, i) >= at {
			return closing(image, i)
		}
	}
	return len(image)
}

// walk goes all ways that an image has, one instruction after the other, loops as often as they go round. It knows nothing of the rules of what is left.
type walk struct {
	image []api.Ins
	end   int
	known map[place]int
}

type place struct {
	at     int
	counts [8]int
}

// longest are the ticks of the longest way from at on to the end of its innermost region, if an ISkip goes both ways and no IStop does anything.
func longest(image []api.Ins, at int) int {
	w := walk{image, end(image, at), map[place]int{}}
	return w.from(place{at: at})
}

func (w *walk) from(p place) int {
	if p.at == w.end {
		if p.at < len(w.image) && w.image[p.at].Op == api.IUnlock {
			return 1
		}
		return 0
	}
	if n, ok := w.known[p]; ok {
		return n
	}
	n := w.step(p)
	w.known[p] = n
	return n
}

func (w *walk) step(p place) int {
	x, to := w.image[p.at], p
	to.at++
	switch x.Op {
	case api.IJump:
		to.at = x.A
		return 2 + w.from(to)
	case api.ISkip:
		over := to
		over.at = x.A
		return max(2+w.from(over), 1+w.from(to))
	case api.ICount:
		to.counts[x.A] = x.B
	case api.IAgain:
		if p.counts[x.A] > 0 {
			to.at = x.B
			to.counts[x.A]--
			return 2 + w.from(to)
		}
	case api.IIn, api.IOut:
		return 2 + w.from(to)
	case api.IMul:
		return 3 + w.from(to)
	case api.IWork:
		return x.A + w.from(to)
	}
	return 1 + w.from(to)
}

// needed is what the chapter's rules say of one instruction by the other numbers, in numbers of any length.
func needed(image []api.Ins, rest []int, at int) *big.Int {
	x := image[at]
	part := func(times, i int) *big.Int {
		if i == len(image) {
			return new(big.Int)
		}
		return new(big.Int).Mul(big.NewInt(int64(times)), big.NewInt(int64(rest[i])))
	}
	sum := func(n int, parts ...*big.Int) *big.Int {
		all := big.NewInt(int64(n))
		for _, p := range parts {
			all.Add(all, p)
		}
		return all
	}
	switch x.Op {
	case api.IAgain:
		return sum(0)
	case api.IUnlock:
		return sum(1)
	case api.IJump:
		return sum(2, part(1, x.A))
	case api.ISkip:
		a, b := sum(2, part(1, x.A)), sum(1, part(1, at+1))
		if a.Cmp(b) > 0 {
			return a
		}
		return b
	case api.ICount:
		return sum(1+2*x.B+1, part(x.B+1, at+1), part(1, closing(image, at)+1))
	case api.ILock:
		return sum(1, part(1, at+1), part(1, closing(image, at)+1))
	case api.IIn, api.IOut:
		return sum(2, part(1, at+1))
	case api.IMul:
		return sum(3, part(1, at+1))
	case api.IWork:
		return sum(x.A, part(1, at+1))
	}
	return sum(1, part(1, at+1))
}

// otherProves is P6.2 in another way, of an image that Check takes.
func otherProves(image []api.Ins, b api.Bound) bool {
	if len(b.Rest) != len(image) {
		return false
	}
	for at, n := range b.Rest {
		if n < 0 || n > most || big.NewInt(int64(n)).Cmp(needed(image, b.Rest, at)) < 0 {
			return false
		}
	}
	return len(image) == 0 && b.Worst >= 0 || len(image) > 0 && b.Worst >= b.Rest[0]
}

// lasting are instructions that take just n ticks; they lie at a number, and deep loops lie around them.
func lasting(n, at, deep int) []api.Ins {
	switch {
	case n == 0:
		return nil
	case n <= 1000:
		return []api.Ins{work(n)}
	case n < 3000:
		return append([]api.Ins{work(1000)}, lasting(n-1000, at+1, deep)...)
	}
	l := append([]api.Ins{count(deep, 999)}, lasting((n-2000)/1000, at+1, deep+1)...)
	l = append(l, again(deep, at+1))
	return append(l, lasting((n-2000)%1000, at+len(l), deep)...)
}

// maker makes images that Check takes, always the same ones from the same seed.
type maker struct {
	*rand.Rand
	image    []api.Ins
	open     []int // counters
	held     []int // locks
	times    int   // how often a loop may go round
	left     int   // how many pieces may still be made
	straight bool  // neither ISkip nor IStop
}

func made(seed int64, pieces, times int, straight bool) *maker {
	m := &maker{Rand: rand.New(rand.NewSource(seed)), times: times, left: pieces, straight: straight}
	for m.left > 0 {
		m.pieces(5)
	}
	return m
}

func (m *maker) add(x api.Ins) int {
	m.image = append(m.image, x)
	return len(m.image) - 1
}

func (m *maker) here(at int) { m.image[at].A = len(m.image) }

// value puts one number onto the stack.
func (m *maker) value(deep int) {
	switch kind := m.Intn(8); {
	case kind < 5 && deep > 0:
		m.value(deep - 1)
		m.value(deep - 1)
		m.add(api.Ins{Op: api.IAdd + kind})
	case kind == 5:
		m.add(input(m.Intn(4)))
	case kind == 6:
		m.add(api.Ins{Op: api.IPush, A: m.Intn(3)})
	default:
		m.add(load(m.Intn(8)))
	}
}

func (m *maker) pieces(deep int) {
	for n := m.Intn(5); n > 0 && m.left > 0; n-- {
		m.left--
		m.piece(deep)
	}
}

func (m *maker) piece(deep int) {
	kind := m.Intn(10)
	if deep == 0 {
		kind %= 5
	}
	switch kind {
	case 0:
		m.value(2)
		m.add(store(m.Intn(8)))
	case 1:
		m.value(2)
		m.add(api.Ins{Op: api.IOut, A: m.Intn(4)})
	case 2:
		m.add(work(1 + m.Intn(30)))
	case 3:
		m.add(jump(len(m.image) + 1))
	case 4:
		if len(m.open) > 0 && !m.straight {
			m.add(stop(m.open[m.Intn(len(m.open))]))
		}
	case 5, 6:
		if !m.straight {
			m.choice(deep, func() { m.pieces(deep - 1) })
		}
	case 7:
		m.locked(deep)
	default:
		m.loop(deep)
	}
}

// choice: some pieces, or else what otherwise lays down; now and then nothing instead of that.
func (m *maker) choice(deep int, otherwise func()) {
	m.value(1)
	at := m.add(skip(0))
	m.pieces(deep - 1)
	if m.Intn(3) == 0 {
		m.here(at)
		return
	}
	behind := m.add(jump(0))
	m.here(at)
	otherwise()
	m.here(behind)
}

func (m *maker) locked(deep int) {
	a := m.Intn(4)
	if slices.Contains(m.held, a) {
		return
	}
	m.held = append(m.held, a)
	m.add(lock(a))
	m.pieces(deep - 1)
	m.add(unlock(a))
	m.held = m.held[:len(m.held)-1]
}

func (m *maker) loop(deep int) {
	a := m.Intn(8)
	if slices.Contains(m.open, a) {
		return
	}
	m.open = append(m.open, a)
	begin := m.add(count(a, m.Intn(m.times))) + 1
	if m.Intn(3) == 0 && !m.straight {
		m.choice(deep, func() { m.add(stop(a)) })
	} else {
		m.pieces(deep - 1)
	}
	m.add(again(a, begin))
	m.open = m.open[:len(m.open)-1]
}

// numbers are n numbers, small ones and some of 64 bits.
func (m *maker) numbers(n int) []int {
	l := make([]int, n)
	for i := range l {
		l[i] = []int{m.Intn(5) - 2, m.Intn(2), int(m.Uint64())}[m.Intn(3)]
	}
	return l
}

// short calls see with all images of at most n instructions, of those that matter to one another, that Check takes.
func short(n int, see func(image []api.Ins)) {
	some := []api.Ins{
		input(0), store(0), {Op: api.IAdd}, jump(2), jump(3), jump(4), skip(2), skip(3), skip(4),
		count(0, 0), count(0, 2), again(0, 1), again(0, 2), again(0, 3), stop(0), lock(0), unlock(0), work(7),
	}
	var all func(image []api.Ins, left int)
	all = func(image []api.Ins, left int) {
		if mach.Check(image) == (api.Fault{}) {
			see(image)
		}
		for _, x := range some {
			if left > 0 {
				all(append(slices.Clip(image), x), left-1)
			}
		}
	}
	all(nil, n)
}
