package tongue_test

import (
	"math"
	"strings"
	"testing"

	"punctual/api"
	"punctual/tongue"
)

func wantCount(t *testing.T, what string, body []api.Stmt, want int) {
	t.Helper()
	if got := tongue.Count(body); got != want {
		t.Errorf("%s: %d, want %d", what, got, want)
	}
}

func TestCount(t *testing.T) {
	wantCount(t, "nil", nil, 0)
	wantCount(t, "empty", []api.Stmt{}, 0)
	wantCount(t, "three", works(3), 3)
	wantCount(t, "within", list(repeat(works(3)...), work(1)), 5)
	wantCount(t, "Body and Else", list(choice(works(3), list(repeat(work(1)), work(2))), work(1)), 8)
	wantCount(t, "Else alone", list(choice(nil, works(4))), 5)
	wantCount(t, "201", works(201), 201)
	wantCount(t, "many", works(100000), 100000)
}

// TestCountAnyBody: Check isn't asked.
func TestCountAnyBody(t *testing.T) {
	wantCount(t, "no kinds", []api.Stmt{{}, {Kind: -3}}, 2)
	wantCount(t, "where none may lie", list(api.Stmt{Kind: api.SWork, Body: works(2), Else: works(3)}), 6)
	wantCount(t, "expressions aren't statements", list(set(chain(50, num(1)))), 1)
}

// TestCountAgainstLines: each statement begins a line, and each block ends with one.
func TestCountAgainstLines(t *testing.T) {
	for seed := range int64(300) {
		body := made(seed)
		text := tongue.Print(body)
		wantCount(t, text, body, strings.Count(text, "\n")-strings.Count(text, "}"))
	}
}

func TestCountDeep(t *testing.T) {
	wantCount(t, "deep", within(1000000, works(2)), 1000002)
}

// TestCountShared: a list counts wherever it lies, however often that is.
func TestCountShared(t *testing.T) {
	twice := works(1)
	for range 20 {
		twice = list(choice(twice, twice))
	}
	wantCount(t, "twenty times twice", twice, 1<<21-1)
	for range 41 {
		twice = list(choice(twice, twice))
	}
	wantCount(t, "61 times twice", twice, 1<<62-1)
	wantCount(t, "62 times twice", list(choice(twice, twice)), math.MaxInt)
	wantCount(t, "more than there are numbers", list(repeat(choice(twice, twice)), work(1)), math.MaxInt)
	l := list(repeat(), repeat(), repeat(), work(1))
	l[0].Body, l[1].Body, l[2].Body = l[1:], l[2:], l[3:]
	wantCount(t, "each in those ahead of it", l, 8+4+2+1)
}

// TestCountEnds: where a list lies within itself, there is no end of statements.
func TestCountEnds(t *testing.T) {
	body := works(1)
	body[0].Body = body
	wantCount(t, "in its Body", body, math.MaxInt)
	body = works(2)
	body[1].Else = list(work(1), repeat(work(1), repeat(body...)))
	body[1].Else[1].Body[1].Body = body
	wantCount(t, "far within", body, math.MaxInt)
	wantCount(t, "around", list(work(1), choice(works(3), body)), math.MaxInt)
}
