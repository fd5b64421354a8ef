package parse

import (
	"strconv"

	"proctor/api"
	"proctor/lex"
)

// anything is the name that is none: as an argument it stands for anything.
const anything = "_"

// placeError is an error at a place.
type placeError struct {
	line, col int
	reason    error
}

// Error tells what is wrong, and where.
func (e *placeError) Error() string {
	return "line " + strconv.Itoa(e.line) + ", column " + strconv.Itoa(e.col) + ": " + e.reason.Error()
}

// Unwrap is the reason.
func (e *placeError) Unwrap() error { return e.reason }

// place is how far tokens were read, and what was met first that is wrong.
type place struct {
	tokens []lex.Token
	at     int
	err    error
}

// ahead is the token so many behind the next one; of no kind, if there is none. Behind what is wrong there is none, so that nothing more is read then, and each loop ends.
func (p *place) ahead(n int) lex.Token {
	if p.err != nil || p.at+n >= len(p.tokens) {
		return lex.Token{}
	}
	return p.tokens[p.at+n]
}

// peek is the next token.
func (p *place) peek() lex.Token { return p.ahead(0) }

// take is the next token, behind which it goes on.
func (p *place) take() lex.Token {
	t := p.peek()
	if t.Kind != 0 {
		p.at++
	}
	return t
}

// comes tells whether a word or a sign comes next.
func (p *place) comes(text string) bool {
	t := p.peek()
	// A quoted text is none, whatever it says.
	return (t.Kind == lex.Word || t.Kind == lex.Sign) && t.Text == text
}

// takes tells whether a word or a sign comes next, and goes on behind it then.
func (p *place) takes(text string) bool {
	comes := p.comes(text)
	if comes {
		p.take()
	}
	return comes
}

// must goes on behind a word or a sign that must come next.
func (p *place) must(text string) {
	if !p.takes(text) {
		p.stray()
	}
}

// stray tells that the next token can't stand where it does; of none, that something must stand behind the last one.
func (p *place) stray() {
	t := lex.Token{Line: 1, Col: 1}
	if last := len(p.tokens) - 1; last >= 0 {
		t = p.tokens[min(p.at, last)]
	}
	p.fail(t, api.ErrSyntax)
}

// fail tells what is wrong at a token, if nothing was wrong ahead.
func (p *place) fail(t lex.Token, reason error) {
	if p.err == nil {
		p.err = &placeError{t.Line, t.Col, reason}
	}
}

// isName tells whether a token is a name, which _ is not.
func isName(t lex.Token) bool {
	return t.Kind == lex.Name && t.Text != anything
}
