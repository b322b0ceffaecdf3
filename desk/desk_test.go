package desk_test

import (
	"slices"
	"strconv"
	"strings"
	"testing"

	"lamplighter/api"
	"lamplighter/desk"
)

func TestWords(t *testing.T) {
	for s, want := range map[string][]string{
		"":                       {""},
		"a":                      {"a"},
		"a b":                    {"a", "b"},
		"a  b":                   {"a", "", "b"},
		" a ":                    {"", "a", ""},
		"  ":                     {"", "", ""},
		"a\tb\nc":                {"a\tb\nc"},
		"'a b' c":                {"'a b'", "c"},
		"'it''s a' 'b  c'":       {"'it''s a'", "'b  c'"},
		"a' 'b c":                {"a' 'b", "c"},
		"a 'b c":                 {"a", "'b c"},
		"'' ' ' '":               {"''", "' '", "'"},
		"''' a' b":               {"''' a'", "b"},
		"é 'ü ö' ä":              {"é", "'ü ö'", "ä"},
		"register p SEQ(A a, B)": {"register", "p", "SEQ(A", "a,", "B)"},
	} {
		if got := desk.Words(s); !slices.Equal(got, want) {
			t.Errorf("%q: got %q, want %q", s, got, want)
		}
	}
}

// play holds what a text's lines tell.
func play(t *testing.T, want string, lines ...string) {
	t.Helper()
	text := strings.Join(lines, "\n")
	if got, line, e := desk.Play(text); got != want || line != 0 || e != api.OK {
		t.Errorf("%s:\ngot %d at %d\n%s\nwant\n%s", text, e, line, got, want)
	}
}

// wrong holds that the last one of lines says nothing, whatever follows.
func wrong(t *testing.T, lines ...string) {
	t.Helper()
	text := strings.Join(lines, "\n")
	for _, more := range []string{"", "\n", "\nclient\nrun 5", "\nno line"} {
		if got, line, e := desk.Play(text + more); got != "" || line != len(lines) || e != api.ErrScript {
			t.Errorf("%q: got %d at %d: %q", text+more, e, line, got)
		}
	}
}

func TestExample(t *testing.T) {
	play(t, "", "")
	play(t, "", "", "", "# no line says anything", "#", "")
	play(t, "", "client", "advance 5")
}

func TestPlay(t *testing.T) {
	play(t, `0.0 err 0 ticket 1
0.1 err 0 ticket 2
0.2 err 0 ticket 3
0.3 err 0 ticket 4
0.4 err 6 ticket 0
0.5 stats 2 1 0 1 1 0
0.6 err 0 ticket 5
0.7 err 0 ticket 6
0.8 err 9 ticket 0
p 'it''s k' 6/3 0:2 1:3
steps 45 at 7 judge 0
`,
		"type A x:int s:str b:bool",
		"# another one, of nothing",
		"type B",
		"client",
		"register p SEQ(A a, B b) WHERE a: a.s = 'u  v' and a.x = -5 and a.b WITHIN 9",
		"publish A 'it''s k' 5 -5 'u  v' true",
		"try B 'it''s k' 6",
		"",
		"advance 7",
		"publish B 'k' 7",
		"stats",
		"unregister p",
		"close",
		"advance 8",
		"run 0",
	)
}

// TestAll holds that each run is of all lines so far, from the beginning.
func TestAll(t *testing.T) {
	play(t, "steps 0 at -1 judge 0\n"+
		"0.0 err 0 ticket 1\nsteps 7 at 5 judge 0\n"+
		"0.0 err 0 ticket 1\n0.1 err 0 ticket 2\nsteps 14 at 6 judge 0\n"+
		"0.0 err 0 ticket 1\n0.1 err 0 ticket 2\nsteps 22 at 6 judge 0\n"+
		"1.0 stats 0 0 0 1 0 0\n0.0 err 0 ticket 1\n1.1 err 10 ticket 0\n0.1 err 0 ticket 2\nsteps 28 at 6 judge 0\n"+
		"1.0 stats 0 0 0 1 0 0\n0.0 err 0 ticket 1\n1.1 err 0 ticket 2\n0.1 err 0 ticket 3\nsteps 30 at 6 judge 0\n",
		"run 0",
		"client",
		"advance 5",
		"run 0",
		"advance 6",
		"run 0",
		"parts 2 1",
		"run 0",
		"client",
		"stats",
		"publish A 'k' 7",
		"run 0",
		"type A",
		"run 0",
	)
}

// TestWishes holds that it is told who does steps: the first client's call goes ahead, or the last one's.
func TestWishes(t *testing.T) {
	lines := []string{"client", "advance 5", "client", "advance 3"}
	play(t, "0.0 err 0 ticket 1\n1.0 err 7 ticket 0\nsteps 10 at 5 judge 0\n", append(lines, "run 99 0")...)
	play(t, "1.0 err 0 ticket 1\n0.0 err 0 ticket 2\nsteps 14 at 5 judge 0\n", append(lines, "run 99 1 0 1 0 0")...)
}

// TestRefused holds that whether a call may be is told by what it comes to.
func TestRefused(t *testing.T) {
	play(t, `0.0 err 10 ticket 0
0.1 err 11 ticket 0
0.2 err 11 ticket 0
0.3 err 12 ticket 0
0.4 err 10 ticket 0
0.5 err 12 ticket 0
0.6 err 12 ticket 0
0.7 err 11 ticket 0
0.8 err 2 ticket 0
0.9 err 10 ticket 0
0.10 err 3 ticket 0
0.11 stats 0 0 11 0 0 0
steps 35 at -1 judge 0
`,
		"type A x:int",
		"client",
		"publish Z 'k' 5",
		"publish A '' 5 1",
		"try A '"+strings.Repeat("k", 33)+"' 5 1",
		"try A 'k' -1 1",
		"publish A 'k' 5 'u'",
		"publish A 'k' 9223372036854775807 1",
		"advance -9223372036854775808",
		"register and SEQ(A a) WITHIN 5",
		"register p SEQ(A a)",
		"register p SEQ(Z a) WITHIN 5",
		"unregister p",
		"stats",
		"run 0",
	)
}

// TestNoRoom holds that a try that finds no room tells so.
func TestNoRoom(t *testing.T) {
	play(t, "0.0 err 0 ticket 1\n0.1 err 8 ticket 0\nsteps 8 at -1 judge 0\n", "type A", "client", "try A 'k' 1", "try A 'k' 2", "run 99 0")
	play(t, "0.0 err 0 ticket 1\n0.1 err 0 ticket 2\nsteps 10 at -1 judge 0\n", "type A", "client", "try A 'k' 1", "try A 'k' 2", "parts 1 2", "run 99 0")
}

func TestLost(t *testing.T) {
	play(t, "0.0 err 0 ticket 1\n0.1 err 0 ticket 2\n0.2 err 0 ticket 3\n0.3 err 0 ticket 4\np 'k' 2/3 lost\nsteps 24 at 2 judge 0\n",
		"type A", "client", "register p SEQ(A a, A b) WHERE b: false WITHIN 9 CAP 1", "publish A 'k' 1", "publish A 'k' 2", "advance 2", "run 0")
}

func TestWrong(t *testing.T) {
	for _, line := range []string{
		" ", "x", "client ", " client", "Client", "client 1", "types A", "type", "type ", "type A ", "type 1", "type and", "type A x", "type A x:", "type A x:Int",
		"type A :int", "type A x:int:", "type A x:int x:str", "type A x:int  y:int", "type A x: int", "type A and:int", "type A " + strings.Repeat("x", 17) + ":int",
		"type A a:int b:int c:int d:int e:int f:int g:int h:int i:int",
		"parts", "parts 1", "parts 1 1 1", "parts 0 1", "parts 1 0", "parts -1 1", "parts 65 1", "parts 1 1025", "parts 1024 1", "parts x 1", "parts 1 x", "parts 01 1", "parts 1  1", "parts 99999999999999999999 1",
		"run", "run ", "run x", "run -1", "run 1073741825", "run 5 -1", "run 5 1073741825", "run 5 x", "run 5  1", "run 5 1 ", "run 05", "run 99999999999999999999",
	} {
		wrong(t, line)
		wrong(t, "# first", "", "client", line)
	}
	for _, line := range []string{
		"register", "register p", "unregister", "unregister p q", "advance", "advance x", "advance 7 8", "advance ", "advance 7 ", "advance 9223372036854775808", "advance 07", "stats 1", "stats ", "close 1", "close ",
		"publish", "publish A", "publish A 'k'", "publish A 'k' x", "publish A k 5", "publish A 'k'x 5", "publish A 'k 5", "publish A 5 'k'", "publish A 'k' 5 ", "publish A 'k' 5 x", "publish A 'k' 5 1 'u", "publish A 'k' 5 01",
		"publish A 'k' 5  1", "publish A 'k' 9223372036854775808", "publish A 'k' 5 9223372036854775808", "publish A 'k' 5 '" + strings.Repeat("u", 65) + "'", "publish A 'k' 5 True",
		"try", "try A", "try A 'k'", "try A k 5", "try A 'k' 5 ?",
		"publish  'k'",
	} {
		wrong(t, line)
		wrong(t, "type A", "client", line)
	}
}

// TestNoClient holds that there is no call without a client, whatever may be.
func TestNoClient(t *testing.T) {
	for _, line := range []string{"register p SEQ(A a) WITHIN 5", "unregister p", "advance 5", "stats", "close", "publish A 'k' 5", "try A 'k' 5"} {
		wrong(t, "type A", "parts 1 1", line)
		wrong(t, line)
		if _, _, e := desk.Play("client\n" + line); e != api.OK {
			t.Errorf("%s: got %d", line, e)
		}
	}
}

// TestMay holds what may be said just so.
func TestMay(t *testing.T) {
	for _, lines := range [][]string{
		{"parts 64 1024"},
		{"parts 1 1", "parts 64 1024", "parts 1 1"},
		{"run 1073741824 1073741824 0"},
		{"type A a:int b:str c:bool d:int e:int f:int g:int h:int", "type B", "type _x1"},
		{"client", "register  "},
		{"client", "unregister "},
		{"client", "register p "},
		{"client", "publish  'k' 5"},
		{"client", "publish A 'k' 5 '" + strings.Repeat("u", 64) + "' true false 9223372036854775807"},
		{"#client 1"},
	} {
		if got, line, e := desk.Play(strings.Join(lines, "\n")); line != 0 || e != api.OK {
			t.Errorf("%q: got %d at %d: %s", lines, e, line, got)
		}
	}
}

// TestTooMany holds how many types, clients, calls and bytes there may be.
func TestTooMany(t *testing.T) {
	var types []string
	for i := range api.MaxTypes {
		types = append(types, "type A"+strconv.Itoa(i))
	}
	play(t, "", types...)
	wrong(t, append(types, "type B")...)
	wrong(t, append(types[:5], "type A3")...)
	clients := slices.Repeat([]string{"client"}, api.MaxClients)
	play(t, "", clients...)
	wrong(t, append(clients, "client")...)
	calls := append([]string{"client"}, slices.Repeat([]string{"stats"}, api.MaxCalls)...)
	play(t, "", append(calls, "client", "stats")...)
	wrong(t, append(calls, "stats")...)
	wrong(t, append(calls, "close")...)
	long := "#" + strings.Repeat("x", api.MaxScript-1)
	play(t, "", long)
	for _, s := range []string{long + "x", long + "\n", strings.Repeat("no line\n", 9999)} {
		if got, line, e := desk.Play(s); got != "" || line != 0 || e != api.ErrBig {
			t.Errorf("got %d at %d: %s", e, line, got)
		}
	}
}

// TestNothingBesideAnError holds that nothing that was told ahead of a line that says nothing is.
func TestNothingBesideAnError(t *testing.T) {
	wrong(t, "client", "advance 5", "run 5", "run")
	wrong(t, "x")
}

// TestAgain holds that a text tells the same whenever it is played.
func TestAgain(t *testing.T) {
	text := "type A\nparts 3 1\nclient\nregister p SEQ(A a) WITHIN 5\nclient\npublish A 'k' 3\npublish A 'l' 3\nclient\nadvance 3\nstats\nrun 3 8 1 5 2 9 4"
	first, _, e := desk.Play(text)
	if e != api.OK || !strings.HasSuffix(first, " judge 0\n") {
		t.Fatalf("got %d: %s", e, first)
	}
	for range 9 {
		if got, _, _ := desk.Play(text); got != first {
			t.Errorf("got %s, want %s", got, first)
		}
	}
}
