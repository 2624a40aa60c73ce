package edf_test

import (
	"slices"
	"testing"

	"punctual/api"
	"punctual/edf"
)

func TestJudgeNobody(t *testing.T) {
	enough(t, "nobody", nil)
	enough(t, "nobody", []api.Job{})
}

func TestJudgeOne(t *testing.T) {
	for c := 1; c <= 5; c++ {
		for at := range 5 {
			for due := range 12 {
				jobs := []api.Job{{Task: -3, At: at, C: c, Due: due, P: -9}}
				if at+c <= due {
					enough(t, "one", jobs)
				} else {
					tooMuch(t, "one", at, due, jobs...)
				}
			}
		}
	}
}

func TestJudge(t *testing.T) {
	enough(t, "just what there is", []api.Job{job(0, 2, 5), job(0, 3, 5)})
	tooMuch(t, "a tick more", 0, 5, job(0, 2, 5), job(0, 4, 5))
	enough(t, "one behind the other", []api.Job{job(0, 5, 5), job(5, 5, 10)})
	tooMuch(t, "the first one a tick more", 0, 5, job(0, 6, 5), job(5, 5, 10))
	tooMuch(t, "the second one a tick more", 5, 10, job(0, 4, 5), job(5, 6, 10))
	tooMuch(t, "both together a tick more", 0, 10, job(0, 5, 9), job(4, 6, 10))
	enough(t, "one within the other", []api.Job{job(0, 6, 10), job(3, 4, 7)})
	tooMuch(t, "one within the other, a tick more", 0, 10, job(0, 7, 10), job(3, 4, 7))
	tooMuch(t, "the one within a tick more", 3, 7, job(0, 5, 10), job(3, 5, 7))
	enough(t, "a gap", []api.Job{job(0, 2, 2), job(7, 3, 10)})
	tooMuch(t, "a gap is of no use to what isn't there yet", 7, 10, job(0, 2, 2), job(7, 4, 10))
	enough(t, "the order of the list is of no matter", []api.Job{job(5, 5, 10), job(0, 5, 5)})
	tooMuch(t, "the order of the list is of no matter", 5, 10, job(5, 6, 10), job(0, 4, 5))
}

// TestJudgeWithoutTime: jobs that are due as they come, ahead of it, or before they can be done.
func TestJudgeWithoutTime(t *testing.T) {
	tooMuch(t, "due as it comes", 5, 5, job(5, 1, 5))
	tooMuch(t, "due ahead of its coming", 5, 3, job(5, 1, 3))
	tooMuch(t, "due at 0", 7, 0, job(7, 1, 0))
	tooMuch(t, "comes at 0, due at 0", 0, 0, job(0, 1, 0))
	tooMuch(t, "takes more than it has", 5, 9, job(5, 5, 9))
	tooMuch(t, "others have time", 5, 5, job(0, 1, 20), job(2, 1, 10), job(5, 1, 5), job(9, 1, 30))
	tooMuch(t, "b lies ahead of a, others are due there too", 6, 3, job(0, 1, 2), job(0, 1, 3), job(1, 1, 4), job(6, 1, 3))
	tooMuch(t, "due ahead of its coming, but a lesser a has too much, too", 2, 5, job(2, 4, 5), job(9, 1, 3))
	// Nobody who isn't there ahead of 4 is due at 1 or ahead of it: so nothing is too much from 4 to 1.
	enough(t, "b lies ahead of a, but nobody is due so", []api.Job{job(0, 1, 1), job(4, 2, 9)})
}

// TestJudgeTellsTheLeast: of several a the least one, and for it the least b.
func TestJudgeTellsTheLeast(t *testing.T) {
	tooMuch(t, "two places", 0, 3, job(0, 4, 3), job(10, 4, 13))
	tooMuch(t, "two places, the later one first in the list", 0, 3, job(10, 4, 13), job(0, 4, 3))
	tooMuch(t, "two b", 0, 3, job(0, 4, 3), job(0, 4, 7))
	tooMuch(t, "two b, the greater one first in the list", 0, 3, job(0, 4, 7), job(0, 4, 3))
	tooMuch(t, "two b, the sum matters", 0, 5, job(0, 2, 4), job(0, 2, 5), job(0, 2, 5), job(0, 9, 7))
	tooMuch(t, "the least a has the greater b", 0, 9, job(0, 6, 9), job(3, 2, 4), job(3, 2, 7), job(8, 2, 9))
	tooMuch(t, "b is less with a greater a", 0, 10, job(0, 7, 10), job(2, 3, 8), job(4, 5, 7))
	tooMuch(t, "three a", 1, 4, job(0, 1, 9), job(1, 1, 4), job(2, 1, 4), job(3, 2, 4))
	// The job that begins at a needn't be one of those that are due.
	tooMuch(t, "who begins at a has time", 0, 4, job(0, 1, 100), job(1, 5, 4))
	tooMuch(t, "who begins at a has time, but not so much", 1, 4, job(0, 1, 100), job(1, 4, 4))
	tooMuch(t, "who begins at the middle one has time", 2, 9, job(0, 1, 100), job(2, 1, 50), job(3, 8, 9))
}

// TestJudgeBetween: times at which nothing begins, or is due, are not told, though they too have too much between them.
func TestJudgeBetween(t *testing.T) {
	tooMuch(t, "nothing begins at 0 to 4", 5, 8, job(5, 9, 8))
	tooMuch(t, "nothing is due at 9 to 12", 5, 13, job(5, 1, 8), job(5, 8, 13))
	tooMuch(t, "who is due between is there ahead", 5, 13, job(0, 1, 8), job(5, 9, 13))
	tooMuch(t, "others are due between", 5, 13, job(0, 1, 6), job(0, 1, 7), job(5, 9, 13), job(0, 1, 12))
}

func TestJudgeFaults(t *testing.T) {
	good := []api.Job{job(0, 1, 9), job(1, 2, 4), job(2, 1, 4)}
	bad := []api.Job{job(0, 3, 1), job(1, 2, 1), job(2, 1, 1)} // there is too much, but that is told later
	for _, jobs := range [][]api.Job{good, bad} {
		for i := range jobs {
			for _, c := range []struct {
				what   string
				change func(j *api.Job)
			}{
				{"At below 0", func(j *api.Job) { j.At = -1 }},
				{"At too great", func(j *api.Job) { j.At = 3*api.MaxUntil + 1 }},
				{"C 0", func(j *api.Job) { j.C = 0 }},
				{"C below 0", func(j *api.Job) { j.C = -1 }},
				{"C too great", func(j *api.Job) { j.C = api.MaxTime + 1 }},
				{"Due below 0", func(j *api.Job) { j.Due = -1 }},
				{"Due too great", func(j *api.Job) { j.Due = 4*api.MaxUntil + 1 }},
			} {
				wantJudge(t, c.what, changed(jobs, i, c.change), 0, 0, fault(api.ErrRange, i))
			}
		}
	}
	two := changed(changed(good, 1, func(j *api.Job) { j.C = 0 }), 2, func(j *api.Job) { j.At = -1 })
	wantJudge(t, "two", two, 0, 0, fault(api.ErrRange, 1))
	many := slices.Repeat([]api.Job{job(0, 1, 4*api.MaxUntil)}, api.MaxJobs+1)
	wantJudge(t, "one more than MaxJobs", many, 0, 0, fault(api.ErrMany, 0))
	wantJudge(t, "one more than MaxJobs, one of them wrong", changed(many, 3, func(j *api.Job) { j.C = 0 }), 0, 0, fault(api.ErrMany, 0))
	wantJudge(t, "one more than MaxJobs, too much", changed(many, 3, func(j *api.Job) { j.Due = 0 }), 0, 0, fault(api.ErrMany, 0))
	enough(t, "MaxJobs", many[1:])
	const lastAt, lastDue = 3 * api.MaxUntil, 4 * api.MaxUntil
	enough(t, "the greatest", []api.Job{job(lastAt, api.MaxTime, lastDue), job(lastAt, api.MaxTime, lastDue)})
	tooMuch(t, "the greatest", lastAt, lastDue, job(lastAt, api.MaxTime, lastDue), job(lastAt, api.MaxTime, lastDue), job(lastAt, 1, lastDue))
	tooMuch(t, "the furthest", lastAt, 0, job(lastAt, api.MaxTime, 0))
}

func TestJudgeAnotherWay(t *testing.T) {
	m := newMaker(106)
	ok, no, within, ahead := 0, 0, 0, 0
	for range 20000 {
		jobs := m.jobs(m.within(1, 9), m.one(5, 12, 30), m.one(2, 3, 6), m.one(2, 5, 10))
		a, b, f := otherJudge(jobs, 60)
		wantJudge(t, "another way", jobs, a, b, f)
		switch {
		case f.Code == api.OK:
			ok++
		case b < a:
			ahead++
		case slices.ContainsFunc(jobs, func(j api.Job) bool { return j.At == a && j.Due <= b }):
			no++
		default: // those that begin at a aren't due
			within++
		}
	}
	if min(ok, no) < 3000 || min(within, ahead) < 100 {
		t.Errorf("%d times enough, %d times too much, %d times though who begins at a has time, %d times b is ahead of a", ok, no, within, ahead)
	}
}

// eachJobs calls with each list of n jobs of small numbers.
func eachJobs(n, ats, longest, dues int, call func(jobs []api.Job)) {
	var lay func(jobs []api.Job)
	lay = func(jobs []api.Job) {
		if len(jobs) == n {
			call(slices.Clone(jobs))
			return
		}
		for at := range ats {
			for c := 1; c <= longest; c++ {
				for due := range dues {
					lay(append(slices.Clip(jobs), job(at, c, due)))
				}
			}
		}
	}
	lay(nil)
}

func TestJudgeShort(t *testing.T) {
	look := func(jobs []api.Job) {
		a, b, f := otherJudge(jobs, 7)
		wantJudge(t, "short", jobs, a, b, f)
	}
	eachJobs(1, 5, 3, 7, look)
	eachJobs(2, 4, 3, 7, look)
	eachJobs(3, 3, 2, 5, look)
}

// TestJudgeMany: as many jobs as may be, of which no two begin, or are due, at one time.
func TestJudgeMany(t *testing.T) {
	var jobs []api.Job
	for i := range api.MaxJobs {
		jobs = append(jobs, job(5*i, 5, 5*i+5))
	}
	enough(t, "just what there is", jobs)
	slices.Reverse(jobs)
	enough(t, "just what there is, the last one first", jobs)
	for _, k := range []int{0, 1, 1999, api.MaxJobs - 1} {
		i := api.MaxJobs - 1 - k
		tooMuch(t, "one takes a tick more", 0, 5*k+5, changed(jobs, i, func(j *api.Job) { j.C++ })...)
		tooMuch(t, "one begins a tick later", 5*k+1, 5*k+5, changed(jobs, i, func(j *api.Job) { j.At++ })...)
	}
	within := make([]api.Job, api.MaxJobs)
	for i := range within {
		within[i] = job(i, 2, 2*api.MaxJobs-i)
	}
	enough(t, "one within the other", within)
	tooMuch(t, "one within the other, the outermost one a tick more", 0, 2*api.MaxJobs, changed(within, 0, func(j *api.Job) { j.C++ })...)
	last := api.MaxJobs - 1
	tooMuch(t, "one within the other, the innermost one a tick more", 0, 2*api.MaxJobs, changed(within, last, func(j *api.Job) { j.C++ })...)
}

func TestJobsOnlyRead(t *testing.T) {
	room := []api.Job{job(5, 5, 10), job(0, 5, 5), job(2, 1, 12), {}, job(0, 9, 1)}
	whole := slices.Clone(room)
	for range 2 {
		enough(t, "room", room[:2])
		tooMuch(t, "room", 0, 10, append(room[:2:2], job(0, 1, 9))...)
		enough(t, "no room", room[:2:2])
		tooMuch(t, "room", 0, 12, changed(room[:3], 2, func(j *api.Job) { j.C = 6 })...)
		if _, _, f := edf.Judge(room[:3]); f != (api.Fault{}) {
			t.Errorf("Judge: %v", f)
		}
	}
	if !slices.Equal(room, whole) {
		t.Errorf("changed: %v, want %v", room, whole)
	}
}
