package kernel_test

import (
	"slices"
	"testing"

	"punctual/api"
)

func TestCheck(t *testing.T) {
	wantCheck(t, "one", loads(loaded("a", 1, 1, 0, "work 1")), api.Fault{})
	wantCheck(t, "no instructions", loads(loaded("a", 1, 1, 0, "")), api.Fault{})
	wantCheck(t, "two", loads(loaded("a", 4, 20, 2, "lock 0, work 1, unlock 0"), loaded("b", 8, 30, 1, "push 5, out 2")), api.Fault{})
	// What Admit asks for isn't asked for here.
	late := loads(due(90, loaded("a", 9, 10, 0, "work 99")))
	late[0].Task.J, late[0].Task.O = api.MaxTime, api.MaxTime
	wantCheck(t, "J, D above T, too much work", late, api.Fault{})
}

// TestCheckTasks: how many there are, and what is wrong with each, as chapter 7 says.
func TestCheckTasks(t *testing.T) {
	wantCheck(t, "none", nil, fault(api.ErrMany, 0))
	wantCheck(t, "none, empty", loads(), fault(api.ErrMany, 0))
	wantCheck(t, "one", several(1), api.Fault{})
	wantCheck(t, "as many as may be", several(api.MaxTasks), api.Fault{})
	wantCheck(t, "one more", several(api.MaxTasks+1), fault(api.ErrMany, 0))
	wantCheck(t, "many more", several(20), fault(api.ErrMany, 0))
	for _, c := range []struct {
		what  string
		spoil func(t *api.Task)
		code  api.Errno
	}{
		{"no name", func(t *api.Task) { t.Name = "" }, api.ErrName},
		{"a long name", func(t *api.Task) { t.Name = "abcdefghijk" }, api.ErrName},
		{"a great letter", func(t *api.Task) { t.Name = "aB" }, api.ErrName},
		{"a name twice", func(t *api.Task) { t.Name = "b" }, api.ErrTwice},
		{"C 0", func(t *api.Task) { t.C = 0 }, api.ErrRange},
		{"C too great", func(t *api.Task) { t.C, t.D = api.MaxTime+1, api.MaxTime }, api.ErrRange},
		{"T 0", func(t *api.Task) { t.T = 0 }, api.ErrRange},
		{"T too great", func(t *api.Task) { t.T = api.MaxTime + 1 }, api.ErrRange},
		{"D 0", func(t *api.Task) { t.D = 0 }, api.ErrRange},
		{"D too great", func(t *api.Task) { t.D = api.MaxTime + 1 }, api.ErrRange},
		{"J below 0", func(t *api.Task) { t.J = -1 }, api.ErrRange},
		{"J too great", func(t *api.Task) { t.J = api.MaxTime + 1 }, api.ErrRange},
		{"O below 0", func(t *api.Task) { t.O = -1 }, api.ErrRange},
		{"O too great", func(t *api.Task) { t.O = api.MaxTime + 1 }, api.ErrRange},
		{"P below 0", func(t *api.Task) { t.P = -1 }, api.ErrRange},
		{"P too great", func(t *api.Task) { t.P = 1001 }, api.ErrRange},
		{"C above D", func(t *api.Task) { t.D = t.C - 1 }, api.ErrOrder},
	} {
		l := several(4)
		c.spoil(&l[2].Task)
		wantCheck(t, c.what, l, fault(c.code, 2))
		// Images are asked behind all tasks.
		l[0].Image = image("add")
		wantCheck(t, c.what+", and an image ahead of it", l, fault(c.code, 2))
	}
}

// TestCheckImages: the Code of what chapter 4 says, but At the task.
func TestCheckImages(t *testing.T) {
	for _, c := range []struct {
		what string
		l    []api.Ins
		code api.Errno
	}{
		{"too long", slices.Repeat(image("work 1"), api.MaxIns+1), api.ErrMany},
		{"no instruction", []api.Ins{{Op: api.IWork, A: 1}, {}}, api.ErrOp},
		{"an instruction too many", []api.Ins{{Op: api.IWork, A: 1}, {Op: 19}}, api.ErrOp},
		{"a lock too many", image("work 1, lock 4, unlock 4"), api.ErrRange},
		{"no work", image("work 1, work 1, work 0"), api.ErrRange},
		{"a loop that isn't closed", image("work 1, count 0 1"), api.ErrLoop},
		{"a lock that isn't given back", image("work 1, work 1, lock 0"), api.ErrLock},
		{"a lock that isn't taken", image("work 1, unlock 0"), api.ErrLock},
		{"a lock that is taken twice", image("lock 0, lock 0, unlock 0, unlock 0"), api.ErrLock},
		{"a jump to itself", image("work 1, jump 1"), api.ErrJump},
		{"too little on the stack", image("work 1, work 1, work 1, out 0"), api.ErrStack},
		{"something left on the stack", image("push 1"), api.ErrStack},
	} {
		for at := range 3 {
			l := several(3)
			l[at].Image = c.l
			wantCheck(t, c.what, l, fault(c.code, at))
			if at < 2 {
				l[2].Image = image("unlock 3")
				wantCheck(t, c.what+", and one behind it", l, fault(c.code, at))
			}
		}
	}
	l := several(3)
	l[1].Image = slices.Repeat(image("work 1"), api.MaxIns)
	wantCheck(t, "as long as may be", l, api.Fault{})
}
