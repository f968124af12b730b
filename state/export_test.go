package state

import "pupil/api"

// CheckIn is Check with another number of bytes than MaxState.
func CheckIn(s api.State, room int) (e api.Errno) {
	defer func() { e = caught(recover()).err }()
	check(s, room)
	return api.OK
}
