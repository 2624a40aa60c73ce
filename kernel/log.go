package kernel

import (
	"slices"
	"strconv"
	"strings"

	"punctual/api"
)

// lastPort is the last one of the ports at which numbers go out.
const lastPort = 3

// words are what is written for the kinds of events.
var words = [...]string{
	api.EvCome: "come",
	api.EvRun:  "run",
	api.EvDone: "done",
	api.EvKill: "kill",
	api.EvLate: "late",
	api.EvPut:  "put",
}

// kindOf is the kind for which a word is written; 0: none.
func kindOf(word string) int {
	for kind, written := range words {
		if written == word {
			return kind
		}
	}
	return 0
}

// numbers are where an event's numbers lie, in the order in which a line has them.
func numbers(e *api.Event) []*int {
	if e.Kind == api.EvPut {
		return []*int{&e.At, &e.Task, &e.M, &e.N}
	}
	return []*int{&e.At, &e.Task, &e.N}
}

// mayStand: can an event stand in a log, looked at alone?
func mayStand(e api.Event) bool {
	if !within(e.Kind, api.EvCome, api.EvPut) || !within(e.At, 0, api.MaxUntil) || !within(e.Task, 0, api.MaxTasks-1) {
		return false
	}
	if e.Kind == api.EvPut { // any number may go out
		return within(e.M, 0, lastPort)
	}
	return e.M == 0 && within(e.N, 0, api.MaxJobs-1)
}

// follows: can an event stand behind a log?
func follows(log []api.Event, e api.Event) bool {
	inOrder := len(log) == 0 || log[len(log)-1].At <= e.At
	return inOrder && mayStand(e)
}

// line is the line of an event that may stand in a log, without its line feed.
func line(e api.Event) string {
	var parts []string
	for _, n := range numbers(&e) {
		parts = append(parts, strconv.Itoa(*n))
	}
	return strings.Join(slices.Insert(parts, 1, words[e.Kind]), " ")
}

// Print writes a log, a line an event; nothing if it can't be one.
func Print(log []api.Event) string {
	var text strings.Builder
	for i, e := range log {
		if !follows(log[:i], e) {
			return ""
		}
		text.WriteString(line(e) + "\n")
	}
	return text.String()
}

// Parse reads what Print writes.
func Parse(text string) ([]api.Event, api.Fault) {
	var log []api.Event
	for text != "" {
		written, rest, ends := strings.Cut(text, "\n")
		e := event(written)
		if !ends || !follows(log, e) || line(e) != written {
			return nil, api.Fault{Code: api.ErrText, At: len(log)}
		}
		log = append(log, e)
		text = rest
	}
	return log, api.Fault{}
}

// event reads a line; nothing if it can't. Parse asks whether Print would write it just so: whether the event can stand in a log, and how its numbers are written.
func event(written string) api.Event {
	parts := strings.Split(written, " ")
	if len(parts) < 2 {
		return api.Event{}
	}
	e := api.Event{Kind: kindOf(parts[1])}
	places := numbers(&e)
	parts = slices.Delete(parts, 1, 2)
	if len(parts) != len(places) {
		return api.Event{}
	}
	for i, place := range places {
		n, err := strconv.Atoi(parts[i])
		if err != nil {
			return api.Event{}
		}
		*place = n
	}
	return e
}

// Replays tells whether just this log comes of it, if tasks come so.
func Replays(l []api.Loaded, comes []api.Come, in []int, until int, log []api.Event) (bool, api.Fault) {
	told, f := Run(l, comes, in, until)
	if f.Code != api.OK {
		return false, f
	}
	return slices.Equal(told, log), api.Fault{}
}
