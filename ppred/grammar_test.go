package ppred_test

import (
	"strings"
	"testing"

	"lamplighter/api"
	"lamplighter/lex"
	"lamplighter/ppred"
	"lamplighter/term"
)

// levels are the signs of two, the loosest first; the third level is that of not.
var levels = []string{" or ", " and ", "", " = != < <= > >= ", " + - ", " * "}

const (
	notLevel     = 2
	compareLevel = 3
	fail         = "?"
)

// plainParser reads words, as the grammar tells it: each level by one of the next.
type plainParser struct {
	words []string
}

func (p *plainParser) peek() string {
	if len(p.words) == 0 {
		return ""
	}
	return p.words[0]
}

func (p *plainParser) next() string {
	w := p.peek()
	if w != "" {
		p.words = p.words[1:]
	}
	return w
}

// level is the text, with all brackets, of what stands at a level; fail: nothing does.
func (p *plainParser) level(at int) string {
	if at == len(levels) {
		return p.one()
	}
	if at == notLevel {
		if p.peek() == "not" {
			p.next()
			return wrap("not ", p.level(at))
		}
		return p.level(at + 1)
	}
	text := p.level(at + 1)
	for text != fail && p.peek() != "" && strings.Contains(levels[at], " "+p.peek()+" ") {
		sign := p.next()
		text = wrap(text+" "+sign+" ", p.level(at+1))
		if at == compareLevel {
			break
		}
	}
	return text
}

func (p *plainParser) one() string {
	switch w := p.next(); w {
	case "-":
		if p.peek() == "1" {
			p.next()
			return "(-1)"
		}
		text := p.one()
		if text == "1" {
			text = "(1)"
		}
		return wrap("- ", text)
	case "(":
		text := p.level(0)
		if p.next() != ")" {
			return fail
		}
		return text
	case "1", "true", "a.x":
		return w
	}
	return fail
}

func wrap(ahead, text string) string {
	if text == fail {
		return fail
	}
	return "(" + ahead + text + ")"
}

// TestAgainstTheGrammar holds all short rows of words against a parser that is made as the grammar is told.
func TestAgainstTheGrammar(t *testing.T) {
	all := []string{"1", "a.x", "(", ")", "-", "not", "and", "or", "=", "<", "+", "*"}
	rows := [][]string{nil}
	for from := 0; from < len(rows); from++ {
		checkRow(t, rows[from])
		if len(rows[from]) < 5 {
			for _, w := range all {
				rows = append(rows, append(rows[from][:len(rows[from]):len(rows[from])], w))
			}
		}
	}
}

func checkRow(t *testing.T, row []string) {
	t.Helper()
	p := &plainParser{words: row}
	want := p.level(0)
	pieces, _ := lex.Text(strings.Join(row, " "))
	left, _ := lex.Text(strings.Join(p.words, " "))
	s := lex.From(pieces)
	l, e := ppred.Take(s)
	if want == fail {
		if l != nil || e != api.ErrForm {
			t.Fatalf("%v: got %q, %d", row, term.Show(l), e)
		}
		return
	}
	if got := term.Show(l); got != want || e != api.OK || s.Left() != len(left) {
		t.Fatalf("%v: got %q, %d, %d left; want %q", row, got, e, s.Left(), want)
	}
}
