package desk

import (
	"strings"

	"lamplighter/api"
	"lamplighter/num"
	"lamplighter/schema"
	"lamplighter/value"
)

// The greatest number that a run is told.
const maxWish = 1 << 30

// do does what a line's words say; false: they say nothing.
func (d *desk) do(words ...string) bool {
	rest := words[1:]
	switch words[0] {
	case "type":
		return d.addType(rest...)
	case "parts":
		return d.setParts(rest...)
	case "client":
		return len(rest) == 0 && d.addClient()
	case "run":
		return d.addRun(rest...)
	}
	c, ok := call(words[0], rest...)
	return ok && d.addCall(c)
}

// addType adds a type, of its name and its fields.
func (d *desk) addType(words ...string) bool {
	if len(words) == 0 {
		return false
	}
	t := api.Type{Name: words[0]}
	for _, word := range words[1:] {
		// A kind that there is not is none's, and the type may not be.
		name, kind, _ := strings.Cut(word, ":")
		t.Fields = append(t.Fields, api.Field{Name: name, Kind: kindOf(kind)})
	}
	types := append(d.types, t)
	if _, e := schema.New(types); e != api.OK {
		return false
	}
	d.types = types
	return true
}

// setParts sets how many parts there are, and how much room queues have.
func (d *desk) setParts(words ...string) bool {
	l, ok := numbers(1, max(api.MaxParts, api.MaxRoom), words...)
	if !ok || len(l) != 2 || l[0] > api.MaxParts || l[1] > api.MaxRoom {
		return false
	}
	d.parts, d.room = l[0], l[1]
	return true
}

// addClient adds a client, who has the calls that follow.
func (d *desk) addClient() bool {
	if len(d.scripts) == api.MaxClients {
		return false
	}
	d.scripts = append(d.scripts, nil)
	return true
}

// addRun runs all so far, by a bound and wishes.
func (d *desk) addRun(words ...string) bool {
	l, ok := numbers(0, maxWish, words...)
	if !ok || len(l) == 0 {
		return false
	}
	d.run(l[0], l[1:])
	return true
}

// addCall adds a call of the last client.
func (d *desk) addCall(c api.Call) bool {
	last := len(d.scripts) - 1
	if last < 0 || len(d.scripts[last]) == api.MaxCalls {
		return false
	}
	d.scripts[last] = append(d.scripts[last], c)
	return true
}

// call is the call of a word, and of those behind it; false: it is none's. Whether it may be, who is called tells.
func call(kind string, words ...string) (api.Call, bool) {
	switch kind {
	case "publish":
		e, ok := event(words...)
		return api.Call{Kind: api.CallPublish, E: e}, ok
	case "try":
		e, ok := event(words...)
		return api.Call{Kind: api.CallTry, E: e}, ok
	case "advance":
		time, ok := num.Parse(strings.Join(words, blank))
		return api.Call{Kind: api.CallAdvance, T: time}, ok
	case "register":
		if len(words) < 2 {
			return api.Call{}, false
		}
		return api.Call{Kind: api.CallRegister, Id: words[0], Text: strings.Join(words[1:], blank)}, true
	case "unregister":
		if len(words) != 1 {
			return api.Call{}, false
		}
		return api.Call{Kind: api.CallUnregister, Id: words[0]}, true
	case "stats":
		return api.Call{Kind: api.CallStats}, len(words) == 0
	case "close":
		return api.Call{Kind: api.CallClose}, len(words) == 0
	}
	return api.Call{}, false
}

// event is the event of its type, key, time and values; false: they are none's.
func event(words ...string) (api.Event, bool) {
	if len(words) < 3 {
		return api.Event{}, false
	}
	key, ok := value.Unquote(words[1])
	time, too := num.Parse(words[2])
	e := api.Event{Type: words[0], Key: key, Time: time}
	for _, word := range words[3:] {
		v, fits := value.Parse(word)
		ok = ok && fits
		e.Vals = append(e.Vals, v)
	}
	return e, ok && too
}

// numbers is the numbers of words, each within bounds; false: one is none, or beyond.
func numbers(least, most int64, words ...string) ([]int, bool) {
	var l []int
	for _, word := range words {
		n, ok := num.Parse(word)
		if !ok || n < least || n > most {
			return nil, false
		}
		l = append(l, int(n))
	}
	return l, true
}

// kindOf is the kind of values of a name; 0: there is none such.
func kindOf(name string) int {
	switch name {
	case "int":
		return api.Int
	case "str":
		return api.Str
	case "bool":
		return api.Bool
	}
	return 0
}
