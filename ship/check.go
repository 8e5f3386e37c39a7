package ship

import (
	"slices"

	"barrage/api"
	"barrage/check"
	"barrage/named"
)

// none stands for no opening, no anchorage, no start, no promise, and no ship.
const none = -1

// Check returns the part, the index in it and the error of a port.
func Check(p api.ShPort) (part, at int, e api.Errno) {
	return check.First(
		check.Must(check.In(len(p.Openings), 1, api.MaxShOpenings) && len(p.Anchors) <= api.MaxShAnchors && len(p.Ships) <= api.MaxShShips, 0, api.ErrLong),
		named.Each(p.Openings, func(o api.ShOpening) string { return o.Name }, openingError),
		named.Each(p.Anchors, func(a api.ShAnchor) string { return a.Name }, anchorError),
		named.Each(p.Ships, func(s api.ShShip) string { return s.Name }, shipError),
		func() (int, api.Errno) { return 0, restError(p) },
	)
}

// openingError returns the error of an opening, beside its name.
func openingError(o api.ShOpening) api.Errno {
	switch {
	case !check.In(o.Width, 0, api.MaxShWidth), !check.IsLevel(o.Sill):
		return api.ErrRange
	case len(o.Shut) > api.MaxShSpans:
		return api.ErrLong
	case slices.ContainsFunc(o.Shut, func(s api.ShSpan) bool { return !check.In(s.From, 0, s.Until) || !check.IsTick(s.Until) }):
		return api.ErrRange
	}
	return api.OK
}

// anchorError returns the error of an anchorage, beside its name.
func anchorError(a api.ShAnchor) api.Errno {
	if !check.In(a.Room, 0, api.MaxShRoom) || !check.In(a.Turn, 0, api.MaxShRoom) {
		return api.ErrRange
	}
	return api.OK
}

// shipError returns the error of a ship, beside its name.
func shipError(s api.ShShip) api.Errno {
	isRight := check.In(s.Length, 1, api.MaxShLength) && check.In(s.Beam, 0, api.MaxShWidth) && check.In(s.Draught, 0, api.MaxShDraught) &&
		check.IsTick(s.Ready) && check.In(s.Pass, 1, api.MaxShPass) && (s.Until == none || check.IsTick(s.Until)) && check.In(s.Value, 0, api.MaxShValue)
	if !isRight {
		return api.ErrRange
	}
	return api.OK
}

// restError returns the error of the levels and of the other numbers of a port.
func restError(p api.ShPort) api.Errno {
	n := len(p.Levels.Values)
	if !check.In(n, 1, api.MaxShTicks) {
		return api.ErrLong
	}
	isRight := !slices.ContainsFunc(p.Levels.Values, func(x int) bool { return !check.IsLevel(x) }) &&
		check.In(p.Levels.From, 0, api.MaxTick-n+1) && check.In(p.Keel, 0, api.MaxShDraught) &&
		check.In(p.Follow, 0, api.MaxShGap) && check.In(p.Gap, 0, api.MaxShGap) && check.In(p.Margin, 0, api.MaxShGap)
	if !isRight {
		return api.ErrRange
	}
	return api.OK
}
