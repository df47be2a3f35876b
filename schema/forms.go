package schema

import "landfall/api"

// plain is parts of size bytes each, without a sign.
func plain(size int, names ...string) []api.Part { return parts(api.Part{Size: size}, names) }

// signed is parts of size bytes each, with a sign.
func signed(size int, names ...string) []api.Part {
	return parts(api.Part{Size: size, Signed: true}, names)
}

// many is arrays of bytes.
func many(n int, names ...string) []api.Part { return parts(api.Part{Size: 1, Many: n}, names) }

func parts(like api.Part, names []string) []api.Part {
	l := make([]api.Part, len(names))
	for i, n := range names {
		like.Name = n
		l[i] = like
	}
	return l
}

func row(l ...[]api.Part) [][]api.Part { return l }

// form is a message's name, and its parts, some at a time; nothing, if there is no such message.
func form(id int) (string, [][]api.Part) {
	if id < 40 {
		return low(id)
	}
	return high(id)
}

func low(id int) (string, [][]api.Part) {
	switch id {
	case 0:
		return "HEARTBEAT", row(plain(1, "type", "autopilot", "base_mode"), plain(4, "custom_mode"), plain(1, "system_status", "mavlink_version"))
	case 1:
		return "SYS_STATUS", row(plain(4, "onboard_control_sensors_present", "onboard_control_sensors_enabled", "onboard_control_sensors_health"), plain(2, "load", "voltage_battery"), signed(2, "current_battery"), signed(1, "battery_remaining"), plain(2, "drop_rate_comm", "errors_comm", "errors_count1", "errors_count2", "errors_count3", "errors_count4"))
	case 2:
		return "SYSTEM_TIME", row(plain(8, "time_unix_usec"), plain(4, "time_boot_ms"))
	case 4:
		return "PING", row(plain(8, "time_usec"), plain(4, "seq"), plain(1, "target_system", "target_component"))
	case 24:
		return "GPS_RAW_INT", row(plain(8, "time_usec"), plain(1, "fix_type"), signed(4, "lat", "lon", "alt"), plain(2, "eph", "epv", "vel", "cog"), plain(1, "satellites_visible"))
	case 25:
		return "GPS_STATUS", row(plain(1, "satellites_visible"), many(20, "satellite_prn", "satellite_used", "satellite_elevation", "satellite_azimuth", "satellite_snr"))
	case 26:
		return "SCALED_IMU", row(plain(4, "time_boot_ms"), signed(2, "xacc", "yacc", "zacc", "xgyro", "ygyro", "zgyro", "xmag", "ymag", "zmag"))
	case 27:
		return "RAW_IMU", row(plain(8, "time_usec"), signed(2, "xacc", "yacc", "zacc", "xgyro", "ygyro", "zgyro", "xmag", "ymag", "zmag"))
	case 28:
		return "RAW_PRESSURE", row(plain(8, "time_usec"), signed(2, "press_abs", "press_diff1", "press_diff2", "temperature"))
	case 33:
		return "GLOBAL_POSITION_INT", row(plain(4, "time_boot_ms"), signed(4, "lat", "lon", "alt", "relative_alt"), signed(2, "vx", "vy", "vz"), plain(2, "hdg"))
	case 35:
		return "RC_CHANNELS_RAW", row(plain(4, "time_boot_ms"), plain(1, "port"), plain(2, "chan1_raw", "chan2_raw", "chan3_raw", "chan4_raw", "chan5_raw", "chan6_raw", "chan7_raw", "chan8_raw"), plain(1, "rssi"))
	case 36:
		return "SERVO_OUTPUT_RAW", row(plain(4, "time_usec"), plain(1, "port"), plain(2, "servo1_raw", "servo2_raw", "servo3_raw", "servo4_raw", "servo5_raw", "servo6_raw", "servo7_raw", "servo8_raw"))
	}
	return "", nil
}

func high(id int) (string, [][]api.Part) {
	switch id {
	case 42:
		return "MISSION_CURRENT", row(plain(2, "seq"))
	case 44:
		return "MISSION_COUNT", row(plain(1, "target_system", "target_component"), plain(2, "count"))
	case 47:
		return "MISSION_ACK", row(plain(1, "target_system", "target_component", "type"))
	case 66:
		return "REQUEST_DATA_STREAM", row(plain(1, "target_system", "target_component", "req_stream_id"), plain(2, "req_message_rate"), plain(1, "start_stop"))
	case 77:
		return "COMMAND_ACK", row(plain(2, "command"), plain(1, "result"))
	case 111:
		return "TIMESYNC", row(signed(8, "tc1", "ts1"))
	case 125:
		return "POWER_STATUS", row(plain(2, "Vcc", "Vservo", "flags"))
	case 200:
		return "ATTITUDE_WORD", row(plain(4, "time_boot_ms", "quaternion"), signed(2, "xgyro", "ygyro", "zgyro"))
	case 201:
		return "FILTER_STATE", row(plain(4, "time_boot_ms"), signed(4, "xbias", "ybias", "zbias"), plain(4, "steps"), plain(2, "cuts"))
	case 202:
		return "LOG_BLOCK", row(plain(4, "number"), plain(1, "part"), many(64, "bytes"))
	}
	return "", nil
}
