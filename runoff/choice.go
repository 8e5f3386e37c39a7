package runoff

import (
	"iter"

	"barrage/api"
)

// maxDevices is the greatest number of devices of a task.
const maxDevices = api.MaxRnSluices + api.MaxRnPumps

// choice says of each device whether it is on; places without a device are off, so that equal choices are equal values.
type choice [maxDevices]bool

// choiceOf returns the choice that is in a list, with a value for each device.
func choiceOf(on []bool) (c choice) {
	copy(c[:], on)
	return c
}

// list returns the values of a choice of so many devices.
func (c choice) list(devices int) []bool { return append([]bool(nil), c[:devices]...) }

// choices yields all choices of so many devices, in order.
func choices(devices int) iter.Seq[choice] {
	return func(yield func(choice) bool) {
		for n := range 1 << devices {
			if !yield(choiceAt(n, devices)) {
				return
			}
		}
	}
}

// choiceAt returns the choice at a place in the order: the devices are the binary digits of its number, the first device that of the highest value.
func choiceAt(n, devices int) (c choice) {
	for i := range devices {
		c[i] = n>>(devices-1-i)&1 == 1
	}
	return c
}
