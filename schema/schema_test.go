package schema_test

import (
	"math"
	"slices"
	"strconv"
	"strings"
	"testing"

	"lamplighter/api"
	"lamplighter/schema"
)

// longest is the longest name.
var longest = strings.Repeat("n", api.MaxName)

var words = []string{"SEQ", "WHERE", "WITHIN", "CAP", "and", "or", "not", "true", "false"}

// fields are so many fields that may be.
func fields(many int) []api.Field {
	var l []api.Field
	for i := range many {
		l = append(l, api.Field{Name: "f" + strconv.Itoa(i), Kind: api.Int + i%3})
	}
	return l
}

// types are so many types that may be.
func types(many int) []api.Type {
	var l []api.Type
	for i := range many {
		l = append(l, api.Type{Name: "T" + strconv.Itoa(i), Fields: fields(i % (api.MaxFields + 1))})
	}
	return l
}

// plain are the types of ordinary tests.
func plain() []api.Type {
	return []api.Type{
		{Name: "B", Fields: []api.Field{{Name: "x", Kind: api.Int}, {Name: "s", Kind: api.Str}}},
		{Name: "A", Fields: []api.Field{{Name: "s", Kind: api.Bool}}},
		{Name: "_c", Fields: nil},
	}
}

// must is the schema of types that may be.
func must(t *testing.T, l []api.Type) *schema.Schema {
	t.Helper()
	s, e := schema.New(l)
	if s == nil || e != api.OK {
		t.Fatalf("New %v: got %v, %d", l, s, e)
	}
	return s
}

func sameType(a, b api.Type) bool { return a.Name == b.Name && slices.Equal(a.Fields, b.Fields) }

func checkName(t *testing.T, s string, want bool) {
	t.Helper()
	if got := schema.Name(s); got != want {
		t.Errorf("Name %q: got %v", s, got)
	}
}

func TestName(t *testing.T) {
	names := []string{
		"a", "z", "A", "Z", "_", "__", "_1", "a1", "x_y", "Abc", "a0", "_a9Z", "x", longest, longest[1:],
		"seq", "Seq", "SEQS", "SE", "where", "WHEREx", "within", "cap", "CAP1", "AND", "And", "OR", "NOT", "True", "TRUE", "False", "truee", "tru", "_true", "nota", "andor", "SEQWHERE",
	}
	for _, s := range names {
		checkName(t, s, true)
	}
	none := []string{
		"", "1", "1a", "0_", "9", " ", " a", "a ", "a b", "a.b", "a-b", "-a", "a'", "'a'", "a\n", "\ta", "$a", "a\x00", "\x00", "\x00a",
		"\u00e9", "a\u00e9", "\u00aa", "a\u0661", "\u0430", "\uff21", "a\xff", "\xff",
		longest + "n", strings.Repeat("n", 1<<16),
	}
	for _, s := range slices.Concat(none, words) {
		checkName(t, s, false)
	}
}

// TestNameOfEachByte holds which bytes a name may have, first, and behind that.
func TestNameOfEachByte(t *testing.T) {
	letters := "ABCDEFGHIJKLMNOPQRSTUVWXYZabcdefghijklmnopqrstuvwxyz_"
	for i := range 256 {
		c := string([]byte{byte(i)})
		letter := strings.Contains(letters, c)
		digit := strings.Contains("0123456789", c)
		checkName(t, c, letter)
		checkName(t, c+"x", letter)
		checkName(t, "x"+c, letter || digit)
		checkName(t, "x"+c+"x", letter || digit)
	}
}

func TestSchema(t *testing.T) {
	s := must(t, plain())
	if s.Len() != 3 || !slices.Equal(s.Names(), []string{"B", "A", "_c"}) {
		t.Errorf("got %d, %v", s.Len(), s.Names())
	}
	for _, want := range plain() {
		if got, ok := s.Find(want.Name); !ok || !sameType(got, want) {
			t.Errorf("Find %s: got %v, %v", want.Name, got, ok)
		}
	}
	for _, name := range []string{"", "C", "a", "b", "AB", "x", "s", "_", "_c "} {
		if got, ok := s.Find(name); ok || !sameType(got, api.Type{}) {
			t.Errorf("Find %q: got %v, %v", name, got, ok)
		}
	}
}

func TestField(t *testing.T) {
	s := must(t, plain())
	cases := []struct {
		name, field string
		place, kind int
	}{
		{"B", "x", 0, api.Int},
		{"B", "s", 1, api.Str},
		{"A", "s", 0, api.Bool},
		{"A", "x", -1, 0},
		{"_c", "x", -1, 0},
		{"B", "", -1, 0},
		{"B", "X", -1, 0},
		{"B", "B", -1, 0},
		{"", "", -1, 0},
		{"", "x", -1, 0},
		{"C", "x", -1, 0},
		{"x", "B", -1, 0},
	}
	for _, c := range cases {
		if place, kind := s.Field(c.name, c.field); place != c.place || kind != c.kind {
			t.Errorf("Field %q %q: got %d, %d", c.name, c.field, place, kind)
		}
	}
}

// TestMost holds that as many types and fields as there may be can be asked for, one by one.
func TestMost(t *testing.T) {
	l := types(api.MaxTypes)
	s := must(t, l)
	if s.Len() != api.MaxTypes {
		t.Errorf("Len: got %d", s.Len())
	}
	for i, name := range s.Names() {
		if name != l[i].Name {
			t.Errorf("Names: got %s at %d", name, i)
		}
		if got, ok := s.Find(name); !ok || !sameType(got, l[i]) {
			t.Errorf("Find %s: got %v, %v", name, got, ok)
		}
		for at, f := range l[i].Fields {
			if place, kind := s.Field(name, f.Name); place != at || kind != f.Kind {
				t.Errorf("Field %s %s: got %d, %d", name, f.Name, place, kind)
			}
		}
	}
}

func TestNew(t *testing.T) {
	good := api.Type{Name: "A", Fields: fields(2)}
	bad := api.Type{Name: "1"}
	cases := []struct {
		what string
		l    []api.Type
		want api.Errno
	}{
		{"nothing", nil, api.OK},
		{"no types", []api.Type{}, api.OK},
		{"one", []api.Type{good}, api.OK},
		{"as many as there may be", types(api.MaxTypes), api.OK},
		{"one too many", types(api.MaxTypes + 1), api.ErrBig},
		{"too many that may not be", make([]api.Type, api.MaxTypes+1), api.ErrBig},
		{"too many of one name", slices.Repeat([]api.Type{good}, api.MaxTypes+1), api.ErrBig},
		{"as many of no name", make([]api.Type, api.MaxTypes), api.ErrInput},
		{"twice", []api.Type{good, good}, api.ErrTwice},
		{"twice with other fields", []api.Type{good, {Name: "A"}}, api.ErrTwice},
		{"twice, far apart", append(types(api.MaxTypes-1), api.Type{Name: "T0"}), api.ErrTwice},
		{"twice, then one that may not be", []api.Type{good, good, bad}, api.ErrTwice},
		{"one that may not be, then twice", []api.Type{bad, good, good}, api.ErrInput},
		{"between the two one that may not be", []api.Type{good, bad, good}, api.ErrInput},
		{"the second may not be, and is there twice", []api.Type{good, {Name: "A", Fields: fields(api.MaxFields + 1)}}, api.ErrInput},
		{"one that may not be, at the end", append(types(api.MaxTypes-1), bad), api.ErrInput},
		{"names of other letters", []api.Type{{Name: "a"}, {Name: "A"}}, api.OK},
	}
	for _, c := range cases {
		s, e := schema.New(c.l)
		if e != c.want || (s != nil) != (c.want == api.OK) || s.Len() != 0 && s.Len() != len(c.l) {
			t.Errorf("New of %s: got %v, %d", c.what, s, e)
		}
	}
}

// TestNewOfOneType holds what a type may be.
func TestNewOfOneType(t *testing.T) {
	field := func(name string, kind int) []api.Field { return []api.Field{{Name: name, Kind: kind}} }
	cases := []struct {
		t    api.Type
		want api.Errno
	}{
		{api.Type{Name: "A"}, api.OK},
		{api.Type{Name: "A", Fields: []api.Field{}}, api.OK},
		{api.Type{Name: longest, Fields: field(longest, api.Str)}, api.OK},
		{api.Type{Name: "A", Fields: field("A", api.Int)}, api.OK},
		{api.Type{Name: "A", Fields: field("x", api.Bool)}, api.OK},
		{api.Type{Name: "A", Fields: fields(api.MaxFields)}, api.OK},
		{api.Type{Name: "A", Fields: fields(api.MaxFields + 1)}, api.ErrInput},
		{api.Type{Name: "A", Fields: make([]api.Field, api.MaxFields+1)}, api.ErrInput},
		{api.Type{}, api.ErrInput},
		{api.Type{Name: "", Fields: fields(1)}, api.ErrInput},
		{api.Type{Name: "true"}, api.ErrInput},
		{api.Type{Name: "SEQ"}, api.ErrInput},
		{api.Type{Name: longest + "n"}, api.ErrInput},
		{api.Type{Name: "A b"}, api.ErrInput},
		{api.Type{Name: "A", Fields: field("", api.Int)}, api.ErrInput},
		{api.Type{Name: "A", Fields: field("and", api.Int)}, api.ErrInput},
		{api.Type{Name: "A", Fields: field("x-y", api.Int)}, api.ErrInput},
		{api.Type{Name: "A", Fields: field(longest+"n", api.Int)}, api.ErrInput},
		{api.Type{Name: "A", Fields: field("x", 0)}, api.ErrInput},
		{api.Type{Name: "A", Fields: field("x", -1)}, api.ErrInput},
		{api.Type{Name: "A", Fields: field("x", api.Bool+1)}, api.ErrInput},
		{api.Type{Name: "A", Fields: field("x", math.MaxInt)}, api.ErrInput},
		{api.Type{Name: "A", Fields: append(fields(3), api.Field{Name: "x"})}, api.ErrInput},
		{api.Type{Name: "A", Fields: append(fields(3), fields(1)...)}, api.ErrInput},
		{api.Type{Name: "A", Fields: append(field("x", api.Int), field("x", api.Str)...)}, api.ErrInput},
		{api.Type{Name: "A", Fields: append(field("x", api.Int), field("X", api.Int)...)}, api.OK},
	}
	for _, c := range cases {
		s, e := schema.New([]api.Type{c.t})
		if e != c.want || (s != nil) != (c.want == api.OK) {
			t.Errorf("New of %v: got %v, %d", c.t, s, e)
		}
	}
}

func TestWordsAreNoNamesOfTypes(t *testing.T) {
	for _, w := range words {
		if s, e := schema.New([]api.Type{{Name: w}}); s != nil || e != api.ErrInput {
			t.Errorf("a type %s: got %v, %d", w, s, e)
		}
		if s, e := schema.New([]api.Type{{Name: "A", Fields: []api.Field{{Name: w, Kind: api.Int}}}}); s != nil || e != api.ErrInput {
			t.Errorf("a field %s: got %v, %d", w, s, e)
		}
	}
}

func checkNothing(t *testing.T, s *schema.Schema) {
	t.Helper()
	if s.Len() != 0 || len(s.Names()) != 0 {
		t.Errorf("got %d, %v", s.Len(), s.Names())
	}
	for _, name := range []string{"", "A", "true"} {
		if got, ok := s.Find(name); ok || !sameType(got, api.Type{}) {
			t.Errorf("Find %q: got %v, %v", name, got, ok)
		}
		if place, kind := s.Field(name, "x"); place != -1 || kind != 0 {
			t.Errorf("Field of %q: got %d, %d", name, place, kind)
		}
	}
}

func TestOfNone(t *testing.T) {
	checkNothing(t, nil)
	checkNothing(t, &schema.Schema{})
	checkNothing(t, must(t, nil))
	checkNothing(t, must(t, []api.Type{}))
}

// TestHandedIn holds that what is handed in may be changed later, and is not changed here.
func TestHandedIn(t *testing.T) {
	l := plain()
	s := must(t, l)
	for i, want := range plain() {
		if !sameType(l[i], want) {
			t.Errorf("type %d was changed: %v", i, l[i])
		}
	}
	l[0].Fields[0] = api.Field{Name: "y", Kind: api.Bool}
	l[1] = api.Type{Name: "Z"}
	if got, ok := s.Find("B"); !ok || !sameType(got, plain()[0]) {
		t.Errorf("Find: got %v, %v", got, ok)
	}
	if !slices.Equal(s.Names(), []string{"B", "A", "_c"}) {
		t.Errorf("Names: got %v", s.Names())
	}
}

// TestAnswers holds that what is done to an answer changes nothing here, nor in another answer.
func TestAnswers(t *testing.T) {
	s := must(t, plain())
	first, _ := s.Find("B")
	second, _ := s.Find("B")
	first.Fields[0] = api.Field{Name: "y", Kind: api.Bool}
	first.Fields = append(first.Fields[:1], api.Field{Name: "z", Kind: api.Bool})
	if !sameType(second, plain()[0]) {
		t.Errorf("another answer was changed: %v", second)
	}
	if got, _ := s.Find("B"); !sameType(got, plain()[0]) {
		t.Errorf("the schema was changed: %v", got)
	}
	names := s.Names()
	names[0] = "Z"
	if !slices.Equal(s.Names(), []string{"B", "A", "_c"}) {
		t.Errorf("Names: got %v", s.Names())
	}
	if place, kind := s.Field("B", "x"); place != 0 || kind != api.Int {
		t.Errorf("Field: got %d, %d", place, kind)
	}
}

// TestTwoSchemas holds that none has to do with another one.
func TestTwoSchemas(t *testing.T) {
	a, b := must(t, plain()), must(t, types(5))
	if a.Len() != 3 || b.Len() != 5 {
		t.Errorf("got %d, %d", a.Len(), b.Len())
	}
	if _, ok := a.Find("T1"); ok {
		t.Error("one finds a type of the other")
	}
}
