package tongue

import "strings"

// maxDigits is how many digits a number may have.
const maxDigits = 9

// signs: the longer ones stand first, for they begin as others do.
var signs = [...]string{"==", "!=", ">=", "=", "<", "+", "-", "*", "(", ")", "{", "}", ";"}

// misread is thrown at a token that cannot stand where it does: it is the token's place.
type misread int

// reader goes through a text token by token: token is the one that it has come to ("" at the end), at is its place.
type reader struct {
	text  string
	token string
	at    int
}

// begin is a reader at the first token of a text.
func begin(text string) *reader {
	r := &reader{text: text}
	r.step()
	return r
}

// step goes on to the next token.
func (r *reader) step() {
	r.at += len(r.token)
	rest := r.text[r.at:]
	r.at += leading(rest, isSpace)
	rest = r.text[r.at:]
	r.token = rest[:r.length(rest)]
}

// length is how long the token is that rest begins with.
func (r *reader) length(rest string) int {
	if rest == "" {
		return 0
	}
	if n := leading(rest, isLetter); n > 0 {
		return n
	}
	if n := leading(rest, isDigit); n > 0 {
		if n > maxDigits || n > 1 && rest[0] == '0' {
			r.refuse()
		}
		return n
	}
	for _, s := range signs {
		if strings.HasPrefix(rest, s) {
			return len(s)
		}
	}
	r.refuse()
	return 0
}

// refuse ends the reading at this place.
func (r *reader) refuse() { panic(misread(r.at)) }

// skip goes past a token, if it is the next one.
func (r *reader) skip(token string) bool {
	if r.token != token {
		return false
	}
	r.step()
	return true
}

// take goes past a token that must stand here.
func (r *reader) take(token string) {
	if !r.skip(token) {
		r.refuse()
	}
}

// leading is how many bytes at the beginning of text are of a kind.
func leading(text string, kind func(byte) bool) int {
	n := 0
	for n < len(text) && kind(text[n]) {
		n++
	}
	return n
}

func isSpace(c byte) bool { return c == ' ' || c == '\t' || c == '\n' || c == '\r' }

func isLetter(c byte) bool { return 'a' <= c && c <= 'z' }

func isDigit(c byte) bool { return '0' <= c && c <= '9' }
