package frac_test

import (
	"regexp"
	"strings"
	"testing"

	"punctual/api"
	"punctual/frac"
)

func TestParseTellsWhatIsWrong(t *testing.T) {
	for text, want := range map[string]api.Fault{
		"":                   {Code: api.ErrText},
		"-":                  {Code: api.ErrText, At: 1},
		"-0":                 {Code: api.ErrText, At: 1},
		"-0/5":               {Code: api.ErrText, At: 1},
		"--1":                {Code: api.ErrText, At: 1},
		"-/2":                {Code: api.ErrText, At: 1},
		"00":                 {Code: api.ErrText, At: 1},
		"007":                {Code: api.ErrText, At: 1},
		"01":                 {Code: api.ErrText, At: 1},
		"-01":                {Code: api.ErrText, At: 1},
		"+1":                 {Code: api.ErrText},
		" 1":                 {Code: api.ErrText},
		"1 ":                 {Code: api.ErrText, At: 1},
		"1\n":                {Code: api.ErrText, At: 1},
		"/2":                 {Code: api.ErrText},
		"1/":                 {Code: api.ErrText, At: 2},
		"0/":                 {Code: api.ErrText, At: 2},
		"1/0":                {Code: api.ErrText, At: 2},
		"0/0":                {Code: api.ErrText, At: 2},
		"1/-2":               {Code: api.ErrText, At: 2},
		"1/02":               {Code: api.ErrText, At: 2},
		"1//2":               {Code: api.ErrText, At: 2},
		"1/2/3":              {Code: api.ErrText, At: 3},
		"12x":                {Code: api.ErrText, At: 2},
		"12/34x":             {Code: api.ErrText, At: 5},
		"1.5":                {Code: api.ErrText, At: 1},
		"1e3":                {Code: api.ErrText, At: 1},
		"1_000":              {Code: api.ErrText, At: 1},
		"0x10":               {Code: api.ErrText, At: 1},
		"0b1":                {Code: api.ErrText, At: 1},
		"1\u0661":            {Code: api.ErrText, At: 1},
		"\xff":               {Code: api.ErrText},
		"1\x00":              {Code: api.ErrText, At: 1},
		"2/4":                {Code: api.ErrOrder},
		"-2/4":               {Code: api.ErrOrder},
		"3/1":                {Code: api.ErrOrder},
		"-3/1":               {Code: api.ErrOrder},
		"0/1":                {Code: api.ErrOrder},
		"0/5":                {Code: api.ErrOrder},
		"4/2":                {Code: api.ErrOrder},
		"6700417/4294967297": {Code: api.ErrOrder},
		"18446744073709551616/18446744073709551616": {Code: api.ErrOrder},
	} {
		x, f := frac.Parse(text)
		if f != want || x != (frac.Frac{}) {
			t.Errorf("Parse(%q): %v, %v, want %v", text, x, f, want)
		}
	}
}

func TestParseIsBack(t *testing.T) {
	for _, text := range []string{"0", "1", "-1", "10", "-3/2", "3/2", "1/10", "-1/2", "100/99", "9223372036854775808", "-9223372036854775809/2", "123456789012345678901234567890123/1000000000000000000000000"} {
		wantText(t, text, parsed(t, text), text)
	}
	for a := -12; a <= 12; a++ {
		for b := 1; b <= 12; b++ {
			x := of(t, a, b)
			if parsed(t, x.Text()).Cmp(x) != 0 {
				t.Errorf("%d/%d: back from %s is another number", a, b, x.Text())
			}
		}
	}
}

const (
	number = "(0|-?[1-9][0-9]*)"
	ends   = "^" + number + "(/[1-9][0-9]*)?$"
	begins = "^(-?|" + number + "(/([1-9][0-9]*)?)?)$"
)

// TestParseOfAllShortTexts holds all texts of up to six bytes against the form, written otherwise.
func TestParseOfAllShortTexts(t *testing.T) {
	form, start := regexp.MustCompile(ends), regexp.MustCompile(begins)
	texts := []string{""}
	for n := 0; n < len(texts); n++ {
		text := texts[n]
		if len(text) < 6 {
			for _, c := range []string{"-", "/", "0", "1", "2", "x"} {
				texts = append(texts, text+c)
			}
		}
		holdText(t, text, form, start)
	}
}

func holdText(t *testing.T, text string, form, start *regexp.Regexp) {
	t.Helper()
	x, f := frac.Parse(text)
	if form.MatchString(text) {
		if f != (api.Fault{}) && f != (api.Fault{Code: api.ErrOrder}) {
			t.Errorf("Parse(%q): %v", text, f)
		}
		if f.Code == api.OK && x.Text() != text {
			t.Errorf("Parse(%q) is written %q", text, x.Text())
		}
		return
	}
	at := len(text)
	for !start.MatchString(text[:at]) {
		at--
	}
	if want := (api.Fault{Code: api.ErrText, At: at}); f != want {
		t.Errorf("Parse(%q): %v, want %v", text, f, want)
	}
}

func TestParseOfLongTexts(t *testing.T) {
	full := strings.Repeat("7", api.MaxText)
	wantText(t, "as long as may be", parsed(t, full), full)
	half := "-" + strings.Repeat("3", api.MaxText/2-2) + "/1" + strings.Repeat("0", api.MaxText/2-1)
	if len(half) != api.MaxText {
		t.Fatal(len(half))
	}
	wantText(t, "as long, with a bar", parsed(t, half), half)
	for _, c := range []struct {
		text string
		want api.Fault
	}{
		{full + "7", api.Fault{Code: api.ErrMany}},
		{strings.Repeat("x", api.MaxText+1), api.Fault{Code: api.ErrMany}},
		{strings.Repeat("x", api.MaxText), api.Fault{Code: api.ErrText}},
		{full[1:] + "x", api.Fault{Code: api.ErrText, At: api.MaxText - 1}},
		{full[1:] + "/", api.Fault{Code: api.ErrText, At: api.MaxText}},
	} {
		if x, f := frac.Parse(c.text); f != c.want || x != (frac.Frac{}) {
			t.Errorf("%d bytes, %.5q..: %v, want %v", len(c.text), c.text, f, c.want)
		}
	}
}
