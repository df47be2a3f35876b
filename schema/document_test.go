package schema

// document is the table of the document, as it stands there.
const document = `| 0 | HEARTBEAT | u8 type; u8 autopilot; u8 base_mode; u32 custom_mode; u8 system_status; u8 mavlink_version |
| 1 | SYS_STATUS | u32 onboard_control_sensors_present; u32 onboard_control_sensors_enabled; u32 onboard_control_sensors_health; u16 load; u16 voltage_battery; i16 current_battery; i8 battery_remaining; u16 drop_rate_comm; u16 errors_comm; u16 errors_count1; u16 errors_count2; u16 errors_count3; u16 errors_count4 |
| 2 | SYSTEM_TIME | u64 time_unix_usec; u32 time_boot_ms |
| 4 | PING | u64 time_usec; u32 seq; u8 target_system; u8 target_component |
| 24 | GPS_RAW_INT | u64 time_usec; u8 fix_type; i32 lat; i32 lon; i32 alt; u16 eph; u16 epv; u16 vel; u16 cog; u8 satellites_visible |
| 25 | GPS_STATUS | u8 satellites_visible; u8[20] satellite_prn; u8[20] satellite_used; u8[20] satellite_elevation; u8[20] satellite_azimuth; u8[20] satellite_snr |
| 26 | SCALED_IMU | u32 time_boot_ms; i16 xacc; i16 yacc; i16 zacc; i16 xgyro; i16 ygyro; i16 zgyro; i16 xmag; i16 ymag; i16 zmag |
| 27 | RAW_IMU | u64 time_usec; i16 xacc; i16 yacc; i16 zacc; i16 xgyro; i16 ygyro; i16 zgyro; i16 xmag; i16 ymag; i16 zmag |
| 28 | RAW_PRESSURE | u64 time_usec; i16 press_abs; i16 press_diff1; i16 press_diff2; i16 temperature |
| 33 | GLOBAL_POSITION_INT | u32 time_boot_ms; i32 lat; i32 lon; i32 alt; i32 relative_alt; i16 vx; i16 vy; i16 vz; u16 hdg |
| 35 | RC_CHANNELS_RAW | u32 time_boot_ms; u8 port; u16 chan1_raw; u16 chan2_raw; u16 chan3_raw; u16 chan4_raw; u16 chan5_raw; u16 chan6_raw; u16 chan7_raw; u16 chan8_raw; u8 rssi |
| 36 | SERVO_OUTPUT_RAW | u32 time_usec; u8 port; u16 servo1_raw; u16 servo2_raw; u16 servo3_raw; u16 servo4_raw; u16 servo5_raw; u16 servo6_raw; u16 servo7_raw; u16 servo8_raw |
| 42 | MISSION_CURRENT | u16 seq |
| 44 | MISSION_COUNT | u8 target_system; u8 target_component; u16 count |
| 47 | MISSION_ACK | u8 target_system; u8 target_component; u8 type |
| 66 | REQUEST_DATA_STREAM | u8 target_system; u8 target_component; u8 req_stream_id; u16 req_message_rate; u8 start_stop |
| 77 | COMMAND_ACK | u16 command; u8 result |
| 111 | TIMESYNC | i64 tc1; i64 ts1 |
| 125 | POWER_STATUS | u16 Vcc; u16 Vservo; u16 flags |
| 200 | ATTITUDE_WORD | u32 time_boot_ms; u32 quaternion; i16 xgyro; i16 ygyro; i16 zgyro |
| 201 | FILTER_STATE | u32 time_boot_ms; i32 xbias; i32 ybias; i32 zbias; u32 steps; u16 cuts |
| 202 | LOG_BLOCK | u32 number; u8 part; u8[64] bytes |`
