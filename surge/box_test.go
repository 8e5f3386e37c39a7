package surge_test

import (
	"slices"
	"testing"

	"barrage/api"
	"barrage/surge"
)

// box returns a box of storm.
func box(low, high api.Series, members ...int) api.SgBox {
	return api.SgBox{Members: members, Low: low, High: high}
}

// crowd is a task in which all members of many centres are possible.
func crowd(centres, members, quorum int) api.SgTask {
	t := api.SgTask{From: 100, Ticks: 2, Most: 100, Rate: 100, Quorum: quorum, Centres: manyCentres(centres)}
	for i := range centres {
		f := api.SgForecast{Centre: i, From: 100}
		for range members {
			f.Members = append(f.Members, []int{50, 50})
		}
		t.Forecasts = append(t.Forecasts, f)
	}
	return t
}

// P2.4
func TestBoxes(t *testing.T) {
	both, free := storm(), storm()
	both.Quorum, free.Quorum = 2, 0
	wide := both
	wide.Centres = []api.SgCentre{{Name: "met", Late: 2, Base: 200, Growth: 100}, {Name: "ocean", Late: 5, Base: 500}}
	whole := box(series(-500, -500, -500), series(4000, 4000, 4000), -1, -1)
	ocean := box(series(1500, 2300, 2400), series(3500, 2700, 2800), -1, 0)
	for i, c := range []struct {
		task api.SgTask
		now  int
		want []api.SgBox
	}{
		{storm(), 89, []api.SgBox{whole}},
		{both, 89, []api.SgBox{whole}},
		{free, 96, []api.SgBox{whole}},
		{storm(), 95, []api.SgBox{ocean, box(series(800, 1250, 1750), series(1200, 1750, 2250), 0, -1), box(series(300, 450, 650), series(700, 950, 1150), 1, -1)}},
		{both, 94, []api.SgBox{box(series(800, 1250, 1750), series(1200, 1750, 2250), 0, -1), box(series(300, 450, 650), series(700, 950, 1150), 1, -1)}},
		{storm(), 96, []api.SgBox{ocean, box(series(1050, 1600, 2400), series(1350, 2000, 2800), 0, -1)}},
		{both, 95, nil},
		{both, 96, nil},
		// The tubes at 101 have just 2000 in common.
		{wide, 95, []api.SgBox{box(series(1200, 2000, 2100), series(1400, 2000, 2500), 0, 0)}},
		{watched(4001, 5000), 99, nil},
		{watched(2000, 2500), 99, []api.SgBox{box(series(2000, 2300, 2400), series(2500, 2500, 2500), -1, 0)}},
	} {
		l, e := surge.Boxes(c.task, c.now)
		if !sameBoxes(l, c.want) || e != api.OK {
			t.Errorf("%d: Boxes = %v, %d, want %v", i, l, e, c.want)
		}
	}
}

// Boxes are tightened over more than one tick, in both directions.
func TestBoxesTight(t *testing.T) {
	task := api.SgTask{From: 100, Ticks: 7, Least: -1000, Most: 1000, Rate: 10, Quorum: 1, Centres: manyCentres(1)}
	task.Forecasts = []api.SgForecast{{From: 103, Members: [][]int{{5}}}}
	want := []api.SgBox{{Members: []int{0}, Low: series(-25, -15, -5, 5, -5, -15, -25), High: series(35, 25, 15, 5, 15, 25, 35)}}
	if l, e := surge.Boxes(task, 100); !sameBoxes(l, want) || e != api.OK {
		t.Errorf("Boxes = %v, %d", l, e)
	}
	// A tube can be reached from a gauge just so, or not at all.
	for value, many := range map[int]int{45: 1, 46: 0, -35: 1, -36: 0} {
		task.Gauges = []api.TdGauge{{Name: "pier", Rate: 5000, Datums: []api.TdDatum{{}}, Readings: []api.TdReading{{Tick: 107, Value: 0}}}}
		task.Ticks = 8
		task.Gauges[0].Readings[0].Value = value
		if l, e := surge.Boxes(task, 107); len(l) != many || e != api.OK {
			t.Errorf("%d: Boxes = %v, %d", value, l, e)
		}
	}
}

// Members are in order, of just as many centres as needed.
func TestBoxesMembers(t *testing.T) {
	for _, c := range []struct{ centres, members, quorum, many int }{{0, 0, 0, 1}, {1, 4, 0, 1}, {1, 4, 1, 4}, {2, 2, 1, 4}, {2, 3, 2, 9}, {3, 2, 2, 12}, {4, 4, 1, 16}, {4, 4, 2, 96}, {4, 4, 3, 256}, {4, 4, 4, 256}} {
		l, e := surge.Boxes(crowd(c.centres, c.members, c.quorum), 0)
		if len(l) != c.many || e != api.OK {
			t.Fatalf("%v: %d boxes, %d", c, len(l), e)
		}
		for i, b := range l {
			chosen := 0
			for _, m := range b.Members {
				if m != -1 {
					chosen++
				}
			}
			if chosen != c.quorum || len(b.Members) != c.centres || slices.Min(append([]int{0}, b.Members...)) < -1 || slices.Max(append([]int{0}, b.Members...)) > max(c.members-1, 0) {
				t.Fatalf("%v: Members %v", c, b.Members)
			}
			if i > 0 && slices.Compare(l[i-1].Members, b.Members) >= 0 {
				t.Fatalf("%v: %v before %v", c, l[i-1].Members, b.Members)
			}
		}
		// All of them are equal, so that only the first one stays.
		if p, e := surge.Possible(crowd(c.centres, c.members, c.quorum), 0); len(p) != 1 || e != api.OK {
			t.Errorf("%v: Possible = %v, %d", c, p, e)
		}
	}
}

func TestPossible(t *testing.T) {
	both, crossed, twins := storm(), storm(), storm()
	both.Quorum = 2
	crossed.Forecasts = []api.SgForecast{{Centre: 0, From: 100, Members: [][]int{{0, 500, 0}, {500, 0, 0}, {-300, 500, 0}}}, {Centre: 1, From: 100, Members: [][]int{{0, 0, 500}, {0, 0, 499}}}}
	crossed.Centres = []api.SgCentre{{Name: "met"}, {Name: "ocean"}}
	twins.Centres = []api.SgCentre{{Name: "met"}, {Name: "ocean"}}
	twins.Forecasts = []api.SgForecast{{Centre: 0, From: 100, Members: [][]int{{0, 5, 0}, {7, 0, 0}, {0, 5, 0}}}, {Centre: 1, From: 100, Members: [][]int{{7, 0, 0}}}}
	for i, c := range []struct {
		task api.SgTask
		now  int
		want []api.Series
	}{
		{storm(), 89, []api.Series{series(4000, 4000, 4000)}},
		{storm(), 90, []api.Series{series(1200, 1750, 2250)}},
		{storm(), 95, []api.Series{series(3500, 2700, 2800)}},
		{storm(), 96, []api.Series{series(3500, 2700, 2800)}},
		{both, 96, nil},
		// In the order of the boxes, those of met behind those of ocean.
		{crossed, 0, []api.Series{series(0, 0, 500), series(0, 500, 0), series(500, 0, 0)}},
		{twins, 0, []api.Series{series(7, 0, 0), series(0, 5, 0)}},
	} {
		if l, e := surge.Possible(c.task, c.now); !sameSeries(l, c.want) || e != api.OK {
			t.Errorf("%d: Possible = %v, %d, want %v", i, l, e, c.want)
		}
	}
}

// P2.5
func TestEnvelopeAndPeak(t *testing.T) {
	both, low := storm(), storm()
	both.Quorum = 2
	low.Table.Mean, low.Least = api.MinLevel, -10000
	low.Most = 0
	for i, c := range []struct {
		task      api.SgTask
		now       int
		low, high api.Series
		peak      api.Span
		e         api.Errno
	}{
		{storm(), 89, series(-500, -500, -500), series(4000, 4000, 4000), sp(-500, 4000), api.OK},
		{storm(), 90, series(300, 450, 650), series(1200, 1750, 2250), sp(650, 2250), api.OK},
		{storm(), 95, series(300, 450, 650), series(3500, 2700, 2800), sp(650, 3500), api.OK},
		{storm(), 96, series(1050, 1600, 2400), series(3500, 2700, 2800), sp(2400, 3500), api.OK},
		{low, 0, series(-20000, -20000, -20000), series(-20000, -20000, -20000), sp(-20000, -20000), api.OK},
		{both, 96, api.Series{}, api.Series{}, sp(0, 0), api.ErrDown},
		{watched(4001, 5000), 99, api.Series{}, api.Series{}, sp(0, 0), api.ErrDown},
	} {
		l, h, e := surge.Envelope(c.task, c.now)
		peak, f := surge.Peak(c.task, c.now)
		if !sameSeries([]api.Series{l, h}, []api.Series{c.low, c.high}) || peak != c.peak || e != c.e || f != c.e {
			t.Errorf("%d: Envelope = %v, %v, %d; Peak = %v, %d", i, l, h, e, peak, f)
		}
	}
	top := storm()
	top.Table.Mean, top.Least, top.Most = api.MaxLevel, 0, 10000
	if peak, e := surge.Peak(top, 0); peak != sp(api.MaxLevel, api.MaxLevel) || e != api.OK {
		t.Errorf("Peak = %v, %d", peak, e)
	}
}

// P2.7
func TestRuledAndSuspects(t *testing.T) {
	both, less, crossed := storm(), storm(), storm()
	both.Quorum, less.Most = 2, 2000
	crossed.Centres = []api.SgCentre{{Name: "met"}, {Name: "ocean"}}
	crossed.Forecasts = []api.SgForecast{{Centre: 0, From: 100, Members: [][]int{{0, 500, 0}, {500, 0, 0}}}, {Centre: 1, Issued: 5, From: 100, Members: [][]int{{0, 0, 500}}}, {Centre: 0, Issued: 9, From: 100, Members: [][]int{{500, 0, 0}}}}
	for i, c := range []struct {
		task      api.SgTask
		then, now int
		want      []int
	}{
		{storm(), 90, 95, nil}, {storm(), 90, 96, []int{0}}, {storm(), 95, 96, nil}, {storm(), 96, 95, nil}, {storm(), 95, 90, []int{0}}, {storm(), 89, 89, nil}, {storm(), 89, 90, []int{0}},
		{both, 96, 89, nil},
		{crossed, 0, 5, nil}, {crossed, 5, 9, []int{1}}, {crossed, 9, 4, []int{0}}, {crossed, 5, 4, []int{0}},
		{watched(1000, 1500), 98, 99, []int{0}},
	} {
		if l, e := surge.Ruled(c.task, c.then, c.now); !slices.Equal(l, c.want) || e != api.OK {
			t.Errorf("%d: Ruled(%d, %d) = %v, %d, want %v", i, c.then, c.now, l, e, c.want)
		}
	}
	for i, c := range []struct {
		task api.SgTask
		now  int
		want []int
	}{
		{storm(), 95, nil}, {storm(), 96, nil}, {less, 89, nil}, {less, 95, []int{1}}, {less, 96, []int{0, 1}},
		// One member that is possible clears its centre.
		{watched(300, 650), 95, nil}, {watched(300, 650), 99, []int{0, 1}}, {watched(700, 2250), 99, []int{0, 1}}, {watched(800, 2250), 99, []int{0, 1}}, {watched(1050, 2500), 99, nil},
		// A base without levels makes suspects of all that have a current forecast.
		{watched(5000, 6000), 98, nil}, {watched(5000, 6000), 99, []int{0, 1}},
	} {
		l, e := surge.Suspects(c.task, c.now)
		if !slices.Equal(l, c.want) || e != api.OK {
			t.Errorf("%d: Suspects(%d) = %v, %d, want %v", i, c.now, l, e, c.want)
		}
	}
	early := watched(5000, 6000)
	early.Gauges[0], early.Gauges[1] = gauge("pier", 90, 5000, 6000), gauge("lock", 90, 5000, 6000)
	if l, e := surge.Suspects(early, 90); !slices.Equal(l, []int{0}) || e != api.OK {
		t.Errorf("Suspects = %v, %d", l, e)
	}
}

// The document's example 2.
func TestExample(t *testing.T) {
	if p, e := surge.Possible(storm(), 95); e != api.OK || !sameSeries(p, []api.Series{series(3500, 2700, 2800)}) {
		t.Errorf("Possible = %v, %d", p, e)
	}
}
