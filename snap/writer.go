package snap

import (
	"lamplighter/api"
	"lamplighter/codec"
	"lamplighter/show"
)

// writer puts an image's parts.
type writer struct {
	codec.Writer
}

func (w *writer) image(i api.Image) {
	w.Text(api.SnapMark)
	w.Int(i.Mark)
	w.Truth(i.Closed)
	putAll(w, i.Entries, w.entry)
	putAll(w, i.Events, w.Event)
	putAll(w, i.Slots, w.slot)
}

func (w *writer) entry(x api.Entry) {
	w.Text(x.Id)
	w.Text(show.Query(x.Q))
	w.Int(x.From)
	w.Int(x.To)
}

func (w *writer) slot(x api.Slot) {
	w.Text(x.Key)
	w.Int(int64(x.Place))
	putAll(w, x.Runs, w.run)
}

func (w *writer) run(x api.Saved) {
	w.Int(int64(x.State))
	w.Pairs(x.Pairs)
	putAll(w, x.Env, w.bound)
	w.Int(x.First)
	w.Int(x.Last.Time)
	w.Int(x.Last.Seq)
	w.Truth(x.Blocked)
}

func (w *writer) bound(x api.Bound) {
	w.Text(x.Var)
	w.Event(x.E)
}

// putAll puts how many things there are, and they.
func putAll[T any](w *writer, l []T, put func(T)) {
	w.Uint(uint64(len(l)))
	for _, x := range l {
		put(x)
	}
}
