// Package round has the divisions of all layers, with their roundings.
package round

// Down returns a quotient rounded down, also below 0; the divisor is above 0.
func Down(n, by int) int {
	if n%by < 0 {
		return n/by - 1
	}
	return n / by
}

// Up returns a quotient rounded up, also below 0; the divisor is above 0.
func Up(n, by int) int {
	if n%by > 0 {
		return n/by + 1
	}
	return n / by
}
