package surge

import (
	"barrage/api"
	"barrage/check"
	"barrage/tide"
)

// none is the index of a forecast or a member that there is not.
const none = -1

// Current returns, for each centre, the index of its forecast that counts at a tick (-1: none).
func Current(t api.SgTask, now int) ([]int, api.Errno) {
	if e := checkAt(t, now); e != api.OK {
		return nil, e
	}
	return current(t, now), api.OK
}

func current(t api.SgTask, now int) []int {
	l := make([]int, len(t.Centres))
	for centre, c := range t.Centres {
		l[centre] = none
		for i, f := range t.Forecasts {
			isKnown := f.Centre == centre && f.Issued+c.Late <= now
			if isKnown && (l[centre] == none || f.Issued > t.Forecasts[l[centre]].Issued) {
				l[centre] = i
			}
		}
	}
	return l
}

// Error returns by how much a forecast may be wrong at a tick.
func Error(t api.SgTask, forecast, tick int) (int, api.Errno) {
	if e := checkAt(t, tick); e != api.OK {
		return 0, e
	}
	if !check.In(forecast, 0, len(t.Forecasts)-1) {
		return 0, api.ErrNone
	}
	return errorOf(t, t.Forecasts[forecast], tick), api.OK
}

func errorOf(t api.SgTask, f api.SgForecast, tick int) int {
	c := t.Centres[f.Centre]
	hours := (max(tick-f.Issued, 0) + api.Hour - 1) / api.Hour
	return c.Base + c.Growth*hours
}

// Tube returns between which levels the histories of a member are.
func Tube(t api.SgTask, forecast, member int) ([]api.Span, api.Errno) {
	if _, _, e := Check(t); e != api.OK {
		return nil, e
	}
	if !check.In(forecast, 0, len(t.Forecasts)-1) || !check.In(member, 0, len(t.Forecasts[forecast].Members)-1) {
		return nil, api.ErrNone
	}
	return tube(t, tideOf(t), t.Forecasts[forecast], member), api.OK
}

// tideOf returns the level of the tide at each tick of a task without an error.
func tideOf(t api.SgTask) spans {
	l, _ := tide.Levels(t.Table, t.From, t.Ticks)
	return l
}

// tube returns the tube of a member of a forecast, by the tides of the task.
func tube(t api.SgTask, tides spans, f api.SgForecast, member int) spans {
	values := f.Members[member]
	s := make(spans, len(tides))
	for i, x := range tides {
		s[i] = api.Span{Lo: api.MinLevel, Hi: api.MaxLevel}
		if at := t.From + i - f.From; check.In(at, 0, len(values)-1) {
			wrong := errorOf(t, f, t.From+i)
			s[i] = api.Span{Lo: x.Lo + values[at] - wrong, Hi: x.Hi + values[at] + wrong}
		}
	}
	return s
}
