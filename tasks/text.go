package tasks

import (
	"strconv"
	"strings"

	"punctual/api"
)

// mostDigits of a number in a text.
const mostDigits = 5

// numbers are where a task's numbers lie, in the order in which a line has them.
func numbers(t *api.Task) []*int {
	return []*int{&t.C, &t.T, &t.D, &t.J, &t.O, &t.P}
}

// Print writes a set, a line a task; nothing if Check refuses it.
func Print(set []api.Task) string {
	if Check(set).Code != api.OK {
		return ""
	}
	var text strings.Builder
	for _, t := range set {
		text.WriteString(t.Name)
		for _, n := range numbers(&t) {
			text.WriteString(" " + strconv.Itoa(*n))
		}
		text.WriteString("\n")
	}
	return text.String()
}

// Parse reads what Print writes.
func Parse(text string) ([]api.Task, api.Fault) {
	if len(text) > api.MaxText {
		return nil, api.Fault{Code: api.ErrMany}
	}
	var set []api.Task
	for text != "" {
		line, rest, ends := strings.Cut(text, "\n")
		t, ok := task(line)
		if !ends || !ok {
			return nil, api.Fault{Code: api.ErrText, At: len(set)}
		}
		set = append(set, t)
		text = rest
	}
	if f := Check(set); f.Code != api.OK {
		return nil, f
	}
	return set, api.Fault{}
}

// task reads a line. Whether its name is one isn't asked here: Check tells that in another way than what isn't written as a line is.
func task(line string) (api.Task, bool) {
	var t api.Task
	places := numbers(&t)
	words := strings.Split(line, " ")
	if len(words) != 1+len(places) {
		return api.Task{}, false
	}
	// A copy, so that a set doesn't hold on to the text that it was read from.
	t.Name = strings.Clone(words[0])
	for i, place := range places {
		n, ok := number(words[1+i])
		if !ok {
			return api.Task{}, false
		}
		*place = n
	}
	return t, true
}

func number(word string) (int, bool) {
	if !within(len(word), 1, mostDigits) || !allWithin(word, '0', '9') {
		return 0, false
	}
	if word[0] == '0' && len(word) > 1 {
		return 0, false
	}
	n := 0
	for _, digit := range word {
		n = 10*n + int(digit-'0')
	}
	return n, true
}
